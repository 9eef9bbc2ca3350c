/-
  Several texts in one: a claim has at most 60 files.
-/
import Derived.Test.YtmcbbjobjogkmabGreatG6
import Derived.Test.YtmcbbjobjogkmabGreatG11

namespace Go.Proofs.YtmcbbjobjogkmabGreat
open Go.RowKit
set_option linter.unusedVariables false
set_option linter.unusedSimpArgs false

/-- Whether the wishes xs for a colors may be asked. -/
noncomputable def wgB (ns ls : List Nd) (xs : List Int) (a : Int) : Bool := listB ns ls (-1) 5 xs && (decide (1 ≤ a) && decide (a ≤ 6))

set_option maxRecDepth 100000 in
set_option maxHeartbeats 4000000 in
theorem implWishG (ns ls : List Nd) (xs : List Int) (vn vl v : Value) (a : Int) (w : World) (hn : Prs w vn ns) (hl : Prs w vl ls) (hv : Seq w v xs) :
    Calls Tryz.prog 43 #[.agg #[vn, vl], v, .int .i64 a] w (GlassL (wgB ns ls xs a) ns ls w) := by
  have HN := Lib.hid hn
  have HL := Lib.hid hl
  have HV := Lib.hid hv
  have H0 := Lib.hid (held_glass w vn vl 33 61)
  have HB0 := Lib.hid (show BlkN (w.heap.size + 1) 61 4 ((w.alloc (.cells #[vn, vl] 33)).alloc (.cells #[.slice none 0 0, .slice none 0 0, .slice none 0 0, .slice none 0 0] 61)) from ⟨_, by
    have := heap_alloc_new (w.alloc (.cells #[vn, vl] 33)) (.cells #[.slice none 0 0, .slice none 0 0, .slice none 0 0, .slice none 0 0] 61)
    simpa using this, rfl⟩)
  have HT := Lib.hid (fun (A1 A2 A3 A4 : Option Addr) (n1 c1 n2 c2 n3 c3 n4 c4 : Nat) W hb => implAreWishes A1 A2 A3 A4 n1 c1 n2 c2 n3 c3 n4 c4 xs v W (hv.step hb))
  unfold BoolIs at HT
  by_cases hh : wholeB ns ls = true
  · have HGY := Lib.hid (fun w h1 h2 => implGlassYes ns ls vn vl w h1 h2 hh)
    unfold GlassYes at HGY
    have HGN := Lib.hid (show gN ns ls = ns from if_pos hh)
    have HGL2 := Lib.hid (show gL ns ls = ls from if_pos hh)
    have HGA := Lib.hid (show gA ns ls = atW ns ls from if_pos hh)
    have HWF := Lib.hid (show wF ns ls = facesL ns ls from if_pos hh)
    unfold GlassL
    have HLD := Lib.hid (show listB ns ls (-1) 5 xs = (decide (xs.length = (facesL ns ls).length) && inR xs (-1) 5) from by unfold listB; rw [hh, HWF.out]; rfl)
    have HRES := Lib.hid (show wgB ns ls xs a = (listB ns ls (-1) 5 xs && (decide (1 ≤ a) && decide (a ≤ 6))) from rfl)
    generalize wgB ns ls xs a = res at *
    generalize listB ns ls (-1) 5 xs = lb at *
    generalize wF ns ls = wf at *
    generalize gA ns ls = ga at *
    generalize gN ns ls = gn at *
    generalize gL ns ls = gl at *
    generalize facesL ns ls = rs at *
    generalize atW ns ls = ds at *
    clear hh
    obtain ⟨A, c, rfl⟩ := prs_form2 hn
    obtain ⟨A2, c2, rfl⟩ := prs_form2 hl
    obtain ⟨A3, c3, rfl⟩ := seq_form2 hv
    clear hn hl hv
    go_enter Tryz.func43, Tryz.ntmps43
    go_wp2_with fail
    refine (HGY.out _ (HN.out.step H0.out.below) (HL.out.step H0.out.below)).mono ?_
    rintro e w1 ⟨vf, va, rfl, g3, g4, hb⟩
    have H1 := Lib.hid (H0.out.step hb)
    have HB1 := Lib.hid (stable_blkN _ _ _ _ _ HB0.out hb)
    have hs1 := H1.out.2.1.1
    have g3 := g3.mono (b' := w.heap.size + 1 + 1) (by simp)
    have g4 := g4.mono (b' := w.heap.size + 1 + 1) (by simp)
    obtain ⟨A7, c7, rfl⟩ := faces_form g3
    obtain ⟨A8, c8, rfl⟩ := ints_form g4
    have FI1 := Lib.hid (FI.mk g3 g4)
    have H2 := Lib.hid (H1.out.new2 w1.heap.size rfl [.slice A ns.length c, .slice A2 ls.length c2, .slice A7 rs.length c7, .slice A8 ds.length c8] 61)
    have H8 := Lib.hid (show Held w _ [(w1.heap.size, 0, .slice A ns.length c), (w1.heap.size, 1, .slice A2 ls.length c2), (w1.heap.size, 2, .slice A7 rs.length c7), (w1.heap.size, 3, .slice A8 ds.length c8)] from H2.out.only (fun ⟨a, b, c, d, _⟩ => ⟨a, b, c, d, trivial⟩) (fun ⟨a, b, c, d, _⟩ => ⟨a, b, c, d, trivial⟩))
    have bq := below_alloc w1 (.cells #[.slice A ns.length c, .slice A2 ls.length c2, .slice A7 rs.length c7, .slice A8 ds.length c8] 61)
    have HK9 := Lib.hid (stable_blkN _ _ _ _ _ HB1.out bq)
    have FI9 := Lib.hid (FI1.out.step bq)
    clear hb g3 g4 bq H1 H2 HB0 HB1 FI1 H0 HGY
    obtain ⟨x0, x1, x2, x3, _⟩ := H8.out.1
    go_wp2_with fail
    generalize w1.alloc (.cells #[.slice A ns.length c, .slice A2 ls.length c2, .slice A7 rs.length c7, .slice A8 ds.length c8] 61) = W8 at *
    replace HT := Lib.hid (fun (A1 A2 A3 A4 : Option Addr) (n1 c1 n2 c2 c3 n4 c4 : Nat) W hb => HT.out A1 A2 A3 A4 n1 c1 n2 c2 rs.length c3 n4 c4 W hb)
    generalize (decide (xs.length = rs.length) && inR xs (-1) 5) = lb2 at *
    cases lb
    · replace HRES := Lib.hid (show res = false from by rw [HRES.out]; rfl)
      obtain rfl := HLD.out
      obtain ⟨p, hp⟩ : ∃ p, decide (1 ≤ a) = p := ⟨_, rfl⟩
      obtain ⟨q, hq⟩ : ∃ q, decide (a ≤ 6) = q := ⟨_, rfl⟩
      cases p
      · cases q
        · refine regionW (fun W => ((Held _ W [(w1.heap.size, 0, .slice A ns.length c), (w1.heap.size, 1, .slice A2 ls.length c2), (w1.heap.size, 2, .slice A7 rs.length c7), (w1.heap.size, 3, .slice A8 ds.length c8)]) ∧ BlkN (w.heap.size + 1) 61 4 W) ∧ FI (w.heap.size + 1 + 1) (.slice A7 rs.length c7) rs (.slice A8 ds.length c8) ds W) (by kernel_rfl) ⟨⟨H8.out.drew, HK9.out⟩, (FI9.out).step ((Below.refl _ _).drew)⟩ ?_
          refine takeW (i := 0) (v := ?_) (Stable.and (Stable.and (Stable.held _ _) (stable_blkN (w.heap.size + 1) 61 4)) (stable_fi (w.heap.size + 1 + 1) (.slice A7 rs.length c7) rs (.slice A8 ds.length c8) ds)) rfl (by kernel_rfl) (by kernel_rfl) (by kernel_rfl) (fun _ _ _ h => h) ?_ ?_
          rotate_left
          · first | (refine Or.inl ⟨by rfl, fun W hS => detR_value (w' := W) ?_ (Below.refl _ _)⟩; obtain ⟨⟨hH, q1⟩, q2⟩ := hS; obtain ⟨x0, x1, x2, x3, _⟩ := hH.1; go_simp; first | done | with_reducible rfl) | fail
          simp only [Act.put, List.setIfInBounds_toArray, List.set_cons_zero, List.set_cons_succ]
          refine takeW (i := 1) (v := ?_) (Stable.and (Stable.and (Stable.held _ _) (stable_blkN (w.heap.size + 1) 61 4)) (stable_fi (w.heap.size + 1 + 1) (.slice A7 rs.length c7) rs (.slice A8 ds.length c8) ds)) rfl (by kernel_rfl) (by kernel_rfl) (by kernel_rfl) (fun _ _ _ h => h) ?_ ?_
          rotate_left
          · first | (refine Or.inl ⟨by rfl, fun W hS => detR_value (w' := W) ?_ (Below.refl _ _)⟩; obtain ⟨⟨hH, q1⟩, q2⟩ := hS; obtain ⟨x0, x1, x2, x3, _⟩ := hH.1; go_simp; first | done | with_reducible rfl) | fail
          simp only [Act.put, List.setIfInBounds_toArray, List.set_cons_zero, List.set_cons_succ]
          refine takeW (i := 2) (v := ?_) (Stable.and (Stable.and (Stable.held _ _) (stable_blkN (w.heap.size + 1) 61 4)) (stable_fi (w.heap.size + 1 + 1) (.slice A7 rs.length c7) rs (.slice A8 ds.length c8) ds)) rfl (by kernel_rfl) (by kernel_rfl) (by kernel_rfl) (fun _ _ _ h => h) ?_ ?_
          rotate_left
          · first | (refine Or.inl ⟨by rfl, fun W hS => detR_value (w' := W) ?_ (Below.refl _ _)⟩; obtain ⟨⟨hH, q1⟩, q2⟩ := hS; obtain ⟨x0, x1, x2, x3, _⟩ := hH.1; go_simp; first | done | with_reducible rfl) | fail
          simp only [Act.put, List.setIfInBounds_toArray, List.set_cons_zero, List.set_cons_succ]
          refine takeW (i := 3) (v := ?_) (Stable.and (Stable.and (Stable.held _ _) (stable_blkN (w.heap.size + 1) 61 4)) (stable_fi (w.heap.size + 1 + 1) (.slice A7 rs.length c7) rs (.slice A8 ds.length c8) ds)) rfl (by kernel_rfl) (by kernel_rfl) (by kernel_rfl) (fun _ _ _ h => h) ?_ ?_
          rotate_left
          · first | (refine Or.inr ⟨by rfl, ?_⟩; with_reducible rfl) | (refine Or.inl ⟨by rfl, fun W hS => detR_value (w' := W) ?_ (Below.refl _ _)⟩; obtain ⟨⟨hH, q1⟩, q2⟩ := hS; obtain ⟨x0, x1, x2, x3, _⟩ := hH.1; go_simp; first | done | with_reducible rfl) | fail
          simp only [Act.put, List.setIfInBounds_toArray, List.set_cons_zero, List.set_cons_succ]
          refine takeW (i := 4) (v := ?_) (Stable.and (Stable.and (Stable.held _ _) (stable_blkN (w.heap.size + 1) 61 4)) (stable_fi (w.heap.size + 1 + 1) (.slice A7 rs.length c7) rs (.slice A8 ds.length c8) ds)) rfl (by kernel_rfl) (by kernel_rfl) (by kernel_rfl) (fun _ _ _ h => h) ?_ ?_
          rotate_left
          · first | (refine Or.inr ⟨by rfl, ?_⟩; with_reducible rfl) | (refine Or.inl ⟨by rfl, fun W hS => detR_value (w' := W) ?_ (Below.refl _ _)⟩; obtain ⟨⟨hH, q1⟩, q2⟩ := hS; obtain ⟨x0, x1, x2, x3, _⟩ := hH.1; go_simp; first | done | with_reducible rfl) | fail
          simp only [Act.put, List.setIfInBounds_toArray, List.set_cons_zero, List.set_cons_succ]
          refine takeW (i := 5) (v := ?_) (Stable.and (Stable.and (Stable.held _ _) (stable_blkN (w.heap.size + 1) 61 4)) (stable_fi (w.heap.size + 1 + 1) (.slice A7 rs.length c7) rs (.slice A8 ds.length c8) ds)) rfl (by kernel_rfl) (by kernel_rfl) (by kernel_rfl) (fun _ _ _ h => h) ?_ ?_
          rotate_left
          · first | (refine Or.inr ⟨by rfl, ?_⟩; with_reducible rfl) | (refine Or.inl ⟨by rfl, fun W hS => ?_⟩; obtain ⟨⟨hH, q1⟩, q2⟩ := hS; refine detR_call (w' := W) (f := ?_) (args := ?_) ?_ ?_; rotate_left 2; (go_simp; (refine ⟨?_, ?_⟩ <;> with_reducible rfl)); (first | (with_reducible refine (HT.out _ _ _ _ _ _ _ _ _ _ _ _ hH.below).mono ?_) | fail); (first | (rintro e wn ⟨rfl, hb⟩; refine ⟨?_, hb⟩; with_reducible rfl) | (rintro e wn ⟨rfl, rfl⟩; refine ⟨?_, Below.refl _ _⟩; with_reducible rfl) | fail)) | fail
          simp only [Act.put, List.setIfInBounds_toArray, List.set_cons_zero, List.set_cons_succ]
          refine takeW (i := 6) (v := ?_) (Stable.and (Stable.and (Stable.held _ _) (stable_blkN (w.heap.size + 1) 61 4)) (stable_fi (w.heap.size + 1 + 1) (.slice A7 rs.length c7) rs (.slice A8 ds.length c8) ds)) rfl (by kernel_rfl) (by kernel_rfl) (by kernel_rfl) (fun _ _ _ h => h) ?_ ?_
          rotate_left
          · first | (refine Or.inl ⟨by rfl, fun W hS => detR_value (w' := W) ?_ (Below.refl _ _)⟩; obtain ⟨⟨hH, q1⟩, q2⟩ := hS; obtain ⟨x0, x1, x2, x3, _⟩ := hH.1; go_simp; first | done | with_reducible rfl) | fail
          simp only [Act.put, List.setIfInBounds_toArray, List.set_cons_zero, List.set_cons_succ]
          refine takeW (i := 7) (v := ?_) (Stable.and (Stable.and (Stable.held _ _) (stable_blkN (w.heap.size + 1) 61 4)) (stable_fi (w.heap.size + 1 + 1) (.slice A7 rs.length c7) rs (.slice A8 ds.length c8) ds)) rfl (by kernel_rfl) (by kernel_rfl) (by kernel_rfl) (fun _ _ _ h => h) ?_ ?_
          rotate_left
          · first | (refine Or.inl ⟨by rfl, fun W hS => detR_value (w' := W) ?_ (Below.refl _ _)⟩; obtain ⟨⟨hH, q1⟩, q2⟩ := hS; obtain ⟨x0, x1, x2, x3, _⟩ := hH.1; go_simp; first | done | with_reducible rfl) | fail
          simp only [Act.put, List.setIfInBounds_toArray, List.set_cons_zero, List.set_cons_succ]
          refine takeW (i := 8) (v := ?_) (Stable.and (Stable.and (Stable.held _ _) (stable_blkN (w.heap.size + 1) 61 4)) (stable_fi (w.heap.size + 1 + 1) (.slice A7 rs.length c7) rs (.slice A8 ds.length c8) ds)) rfl (by kernel_rfl) (by kernel_rfl) (by kernel_rfl) (fun _ _ _ h => h) ?_ ?_
          rotate_left
          · first | (refine Or.inr ⟨by rfl, ?_⟩; with_reducible rfl) | (refine Or.inl ⟨by rfl, fun W hS => detR_value (w' := W) ?_ (Below.refl _ _)⟩; obtain ⟨⟨hH, q1⟩, q2⟩ := hS; obtain ⟨x0, x1, x2, x3, _⟩ := hH.1; go_simp; first | done | with_reducible rfl) | fail
          simp only [Act.put, List.setIfInBounds_toArray, List.set_cons_zero, List.set_cons_succ]
          refine takeW (i := 9) (v := ?_) (Stable.and (Stable.and (Stable.held _ _) (stable_blkN (w.heap.size + 1) 61 4)) (stable_fi (w.heap.size + 1 + 1) (.slice A7 rs.length c7) rs (.slice A8 ds.length c8) ds)) rfl (by kernel_rfl) (by kernel_rfl) (by kernel_rfl) (fun _ _ _ h => h) ?_ ?_
          rotate_left
          · first | (refine Or.inr ⟨by rfl, ?_⟩; with_reducible rfl) | (refine Or.inl ⟨by rfl, fun W hS => detR_value (w' := W) ?_ (Below.refl _ _)⟩; obtain ⟨⟨hH, q1⟩, q2⟩ := hS; obtain ⟨x0, x1, x2, x3, _⟩ := hH.1; go_simp; first | done | with_reducible rfl) | fail
          simp only [Act.put, List.setIfInBounds_toArray, List.set_cons_zero, List.set_cons_succ]
          refine takeW (i := 10) (v := ?_) (Stable.and (Stable.and (Stable.held _ _) (stable_blkN (w.heap.size + 1) 61 4)) (stable_fi (w.heap.size + 1 + 1) (.slice A7 rs.length c7) rs (.slice A8 ds.length c8) ds)) rfl (by kernel_rfl) (by kernel_rfl) (by kernel_rfl) (fun _ _ _ h => h) ?_ ?_
          rotate_left
          · first | (refine Or.inl ⟨by rfl, fun W hS => detR_value (w' := W) ?_ (Below.refl _ _)⟩; obtain ⟨⟨hH, q1⟩, q2⟩ := hS; obtain ⟨x0, x1, x2, x3, _⟩ := hH.1; go_simp; first | done | with_reducible rfl) | fail
          simp only [Act.put, List.setIfInBounds_toArray, List.set_cons_zero, List.set_cons_succ]
          refine takeW (i := 11) (v := ?_) (Stable.and (Stable.and (Stable.held _ _) (stable_blkN (w.heap.size + 1) 61 4)) (stable_fi (w.heap.size + 1 + 1) (.slice A7 rs.length c7) rs (.slice A8 ds.length c8) ds)) rfl (by kernel_rfl) (by kernel_rfl) (by kernel_rfl) (fun _ _ _ h => h) ?_ ?_
          rotate_left
          · first | (refine Or.inl ⟨by rfl, fun W hS => detR_value (w' := W) ?_ (Below.refl _ _)⟩; obtain ⟨⟨hH, q1⟩, q2⟩ := hS; obtain ⟨x0, x1, x2, x3, _⟩ := hH.1; go_simp; first | done | with_reducible rfl) | fail
          simp only [Act.put, List.setIfInBounds_toArray, List.set_cons_zero, List.set_cons_succ]
          refine takeW (i := 12) (v := ?_) (Stable.and (Stable.and (Stable.held _ _) (stable_blkN (w.heap.size + 1) 61 4)) (stable_fi (w.heap.size + 1 + 1) (.slice A7 rs.length c7) rs (.slice A8 ds.length c8) ds)) rfl (by kernel_rfl) (by kernel_rfl) (by kernel_rfl) (fun _ _ _ h => h) ?_ ?_
          rotate_left
          · first | (refine Or.inr ⟨by rfl, ?_⟩; with_reducible rfl) | (refine Or.inl ⟨by rfl, fun W hS => detR_value (w' := W) ?_ (Below.refl _ _)⟩; obtain ⟨⟨hH, q1⟩, q2⟩ := hS; obtain ⟨x0, x1, x2, x3, _⟩ := hH.1; go_simp; first | done | with_reducible rfl) | fail
          simp only [Act.put, List.setIfInBounds_toArray, List.set_cons_zero, List.set_cons_succ]
          refine takeW (i := 13) (v := ?_) (Stable.and (Stable.and (Stable.held _ _) (stable_blkN (w.heap.size + 1) 61 4)) (stable_fi (w.heap.size + 1 + 1) (.slice A7 rs.length c7) rs (.slice A8 ds.length c8) ds)) rfl (by kernel_rfl) (by kernel_rfl) (by kernel_rfl) (fun _ _ _ h => h) ?_ ?_
          rotate_left
          · first | (refine Or.inr ⟨by rfl, ?_⟩; with_reducible rfl) | (refine Or.inl ⟨by rfl, fun W hS => detR_value (w' := W) ?_ (Below.refl _ _)⟩; obtain ⟨⟨hH, q1⟩, q2⟩ := hS; obtain ⟨x0, x1, x2, x3, _⟩ := hH.1; go_simp; first | done | with_reducible rfl) | fail
          simp only [Act.put, List.setIfInBounds_toArray, List.set_cons_zero, List.set_cons_succ]
          refine takeW (i := 14) (v := ?_) (Stable.and (Stable.and (Stable.held _ _) (stable_blkN (w.heap.size + 1) 61 4)) (stable_fi (w.heap.size + 1 + 1) (.slice A7 rs.length c7) rs (.slice A8 ds.length c8) ds)) rfl (by kernel_rfl) (by kernel_rfl) (by kernel_rfl) (fun _ _ _ h => h) ?_ ?_
          rotate_left
          · first | (refine Or.inl ⟨by rfl, fun W hS => detR_value (w' := W) ?_ (Below.refl _ _)⟩; obtain ⟨⟨hH, q1⟩, q2⟩ := hS; obtain ⟨x0, x1, x2, x3, _⟩ := hH.1; go_simp; first | done | with_reducible rfl) | fail
          simp only [Act.put, List.setIfInBounds_toArray, List.set_cons_zero, List.set_cons_succ]
          refine storeK (i := 15) (b := w.heap.size + 1) #[.slice A ns.length c, .slice A2 ls.length c2, .slice A7 rs.length c7, .slice A8 ds.length c8] (Stable.and (Stable.and (Stable.held _ _) (stable_blkN (w.heap.size + 1) 61 4)) (stable_fi (w.heap.size + 1 + 1) (.slice A7 rs.length c7) rs (.slice A8 ds.length c8) ds)) (fun W hS => by obtain ⟨⟨hH, q1⟩, q2⟩ := hS; exact q1) (fun W hS => by obtain ⟨⟨hH, q1⟩, q2⟩ := hS; exact ⟨⟨hH.setRowAt (by simp; omega) (Nat.le_succ _) _, q1.setRow rfl⟩, q2.setRow (Nat.lt_succ_self _) _⟩) rfl (by kernel_rfl) (by rfl) rfl (by rfl) (by rfl) rfl (by kernel_rfl) (by simp [Value.oneCell']) ?_
          simp only [Act.put, List.setIfInBounds_toArray, List.set_cons_zero, List.set_cons_succ]
          refine takeW (i := 16) (v := ?_) (Stable.and (Stable.and (Stable.and (Stable.held _ _) (stable_blkN (w.heap.size + 1) 61 4)) (stable_fi (w.heap.size + 1 + 1) (.slice A7 rs.length c7) rs (.slice A8 ds.length c8) ds)) (stable_blkIs _ _ _)) rfl (by kernel_rfl) (by kernel_rfl) (by kernel_rfl) (fun _ _ _ h => h) ?_ ?_
          rotate_left
          · first | (refine Or.inl ⟨by rfl, fun W hS => detR_value (w' := W) ?_ (Below.refl _ _)⟩; obtain ⟨⟨⟨hH, q1⟩, q2⟩, hs⟩ := hS; obtain ⟨x0, x1, x2, x3, _⟩ := hH.1; go_simp; first | done | with_reducible rfl) | fail
          simp only [Act.put, List.setIfInBounds_toArray, List.set_cons_zero, List.set_cons_succ]
          refine doneW (by kernel_rfl) fun wH7 HG => ?_
          obtain ⟨⟨⟨hH, q1⟩, q2⟩, hs⟩ := HG
          have H7 := Lib.hid hH; clear hH
          have MH7_q1 := Lib.hid q1; clear q1
          have MH7_q2 := Lib.hid q2; clear q2
          have MH7_s := Lib.hid hs; clear hs
          try clear x0 x1 x2 x3
          have r0 := (cell_of_cells (k := 0) MH7_s.out).trans (rfl : _ = some (Value.slice A ns.length c))
          have r1 := (cell_of_cells (k := 1) MH7_s.out).trans (rfl : _ = some (Value.slice A2 ls.length c2))
          have r2 := (cell_of_cells (k := 2) MH7_s.out).trans (rfl : _ = some (Value.slice A7 rs.length c7))
          have r3 := (cell_of_cells (k := 3) MH7_s.out).trans (rfl : _ = some (Value.slice A8 ds.length c8))
          go_wp2_with fail
          refine bodyPost_ret (v := .tuple #[.agg #[.slice A ns.length c, .slice A2 ls.length c2, .slice A7 rs.length c7, .slice A8 ds.length c8], .bool false]) (by simp [results, Tryz.results43, go_sem, r0, r1, r2, r3]) rfl ⟨_, _, _, _, by first | (rw [HRES.out]; done) | (rw [HRES.out]; rfl), ?_, ?_, ?_, ?_, H7.out.below⟩
          · rw [HGN.out]; exact HN.out.step H7.out.below
          · rw [HGL2.out]; exact HL.out.step H7.out.below
          · rw [HWF.out]; exact MH7_q2.out.f.mono (by omega)
          · rw [HGA.out]; exact MH7_q2.out.a.mono (by omega)
        · refine regionW (fun W => ((Held _ W [(w1.heap.size, 0, .slice A ns.length c), (w1.heap.size, 1, .slice A2 ls.length c2), (w1.heap.size, 2, .slice A7 rs.length c7), (w1.heap.size, 3, .slice A8 ds.length c8)]) ∧ BlkN (w.heap.size + 1) 61 4 W) ∧ FI (w.heap.size + 1 + 1) (.slice A7 rs.length c7) rs (.slice A8 ds.length c8) ds W) (by kernel_rfl) ⟨⟨H8.out.drew, HK9.out⟩, (FI9.out).step ((Below.refl _ _).drew)⟩ ?_
          refine takeW (i := 0) (v := ?_) (Stable.and (Stable.and (Stable.held _ _) (stable_blkN (w.heap.size + 1) 61 4)) (stable_fi (w.heap.size + 1 + 1) (.slice A7 rs.length c7) rs (.slice A8 ds.length c8) ds)) rfl (by kernel_rfl) (by kernel_rfl) (by kernel_rfl) (fun _ _ _ h => h) ?_ ?_
          rotate_left
          · first | (refine Or.inl ⟨by rfl, fun W hS => detR_value (w' := W) ?_ (Below.refl _ _)⟩; obtain ⟨⟨hH, q1⟩, q2⟩ := hS; obtain ⟨x0, x1, x2, x3, _⟩ := hH.1; go_simp; first | done | with_reducible rfl) | fail
          simp only [Act.put, List.setIfInBounds_toArray, List.set_cons_zero, List.set_cons_succ]
          refine takeW (i := 1) (v := ?_) (Stable.and (Stable.and (Stable.held _ _) (stable_blkN (w.heap.size + 1) 61 4)) (stable_fi (w.heap.size + 1 + 1) (.slice A7 rs.length c7) rs (.slice A8 ds.length c8) ds)) rfl (by kernel_rfl) (by kernel_rfl) (by kernel_rfl) (fun _ _ _ h => h) ?_ ?_
          rotate_left
          · first | (refine Or.inl ⟨by rfl, fun W hS => detR_value (w' := W) ?_ (Below.refl _ _)⟩; obtain ⟨⟨hH, q1⟩, q2⟩ := hS; obtain ⟨x0, x1, x2, x3, _⟩ := hH.1; go_simp; first | done | with_reducible rfl) | fail
          simp only [Act.put, List.setIfInBounds_toArray, List.set_cons_zero, List.set_cons_succ]
          refine takeW (i := 2) (v := ?_) (Stable.and (Stable.and (Stable.held _ _) (stable_blkN (w.heap.size + 1) 61 4)) (stable_fi (w.heap.size + 1 + 1) (.slice A7 rs.length c7) rs (.slice A8 ds.length c8) ds)) rfl (by kernel_rfl) (by kernel_rfl) (by kernel_rfl) (fun _ _ _ h => h) ?_ ?_
          rotate_left
          · first | (refine Or.inl ⟨by rfl, fun W hS => detR_value (w' := W) ?_ (Below.refl _ _)⟩; obtain ⟨⟨hH, q1⟩, q2⟩ := hS; obtain ⟨x0, x1, x2, x3, _⟩ := hH.1; go_simp; first | done | with_reducible rfl) | fail
          simp only [Act.put, List.setIfInBounds_toArray, List.set_cons_zero, List.set_cons_succ]
          refine takeW (i := 3) (v := ?_) (Stable.and (Stable.and (Stable.held _ _) (stable_blkN (w.heap.size + 1) 61 4)) (stable_fi (w.heap.size + 1 + 1) (.slice A7 rs.length c7) rs (.slice A8 ds.length c8) ds)) rfl (by kernel_rfl) (by kernel_rfl) (by kernel_rfl) (fun _ _ _ h => h) ?_ ?_
          rotate_left
          · first | (refine Or.inr ⟨by rfl, ?_⟩; with_reducible rfl) | (refine Or.inl ⟨by rfl, fun W hS => detR_value (w' := W) ?_ (Below.refl _ _)⟩; obtain ⟨⟨hH, q1⟩, q2⟩ := hS; obtain ⟨x0, x1, x2, x3, _⟩ := hH.1; go_simp; first | done | with_reducible rfl) | fail
          simp only [Act.put, List.setIfInBounds_toArray, List.set_cons_zero, List.set_cons_succ]
          refine takeW (i := 4) (v := ?_) (Stable.and (Stable.and (Stable.held _ _) (stable_blkN (w.heap.size + 1) 61 4)) (stable_fi (w.heap.size + 1 + 1) (.slice A7 rs.length c7) rs (.slice A8 ds.length c8) ds)) rfl (by kernel_rfl) (by kernel_rfl) (by kernel_rfl) (fun _ _ _ h => h) ?_ ?_
          rotate_left
          · first | (refine Or.inr ⟨by rfl, ?_⟩; with_reducible rfl) | (refine Or.inl ⟨by rfl, fun W hS => detR_value (w' := W) ?_ (Below.refl _ _)⟩; obtain ⟨⟨hH, q1⟩, q2⟩ := hS; obtain ⟨x0, x1, x2, x3, _⟩ := hH.1; go_simp; first | done | with_reducible rfl) | fail
          simp only [Act.put, List.setIfInBounds_toArray, List.set_cons_zero, List.set_cons_succ]
          refine takeW (i := 5) (v := ?_) (Stable.and (Stable.and (Stable.held _ _) (stable_blkN (w.heap.size + 1) 61 4)) (stable_fi (w.heap.size + 1 + 1) (.slice A7 rs.length c7) rs (.slice A8 ds.length c8) ds)) rfl (by kernel_rfl) (by kernel_rfl) (by kernel_rfl) (fun _ _ _ h => h) ?_ ?_
          rotate_left
          · first | (refine Or.inr ⟨by rfl, ?_⟩; with_reducible rfl) | (refine Or.inl ⟨by rfl, fun W hS => ?_⟩; obtain ⟨⟨hH, q1⟩, q2⟩ := hS; refine detR_call (w' := W) (f := ?_) (args := ?_) ?_ ?_; rotate_left 2; (go_simp; (refine ⟨?_, ?_⟩ <;> with_reducible rfl)); (first | (with_reducible refine (HT.out _ _ _ _ _ _ _ _ _ _ _ _ hH.below).mono ?_) | fail); (first | (rintro e wn ⟨rfl, hb⟩; refine ⟨?_, hb⟩; with_reducible rfl) | (rintro e wn ⟨rfl, rfl⟩; refine ⟨?_, Below.refl _ _⟩; with_reducible rfl) | fail)) | fail
          simp only [Act.put, List.setIfInBounds_toArray, List.set_cons_zero, List.set_cons_succ]
          refine takeW (i := 6) (v := ?_) (Stable.and (Stable.and (Stable.held _ _) (stable_blkN (w.heap.size + 1) 61 4)) (stable_fi (w.heap.size + 1 + 1) (.slice A7 rs.length c7) rs (.slice A8 ds.length c8) ds)) rfl (by kernel_rfl) (by kernel_rfl) (by kernel_rfl) (fun _ _ _ h => h) ?_ ?_
          rotate_left
          · first | (refine Or.inl ⟨by rfl, fun W hS => detR_value (w' := W) ?_ (Below.refl _ _)⟩; obtain ⟨⟨hH, q1⟩, q2⟩ := hS; obtain ⟨x0, x1, x2, x3, _⟩ := hH.1; go_simp; first | done | with_reducible rfl) | fail
          simp only [Act.put, List.setIfInBounds_toArray, List.set_cons_zero, List.set_cons_succ]
          refine takeW (i := 7) (v := ?_) (Stable.and (Stable.and (Stable.held _ _) (stable_blkN (w.heap.size + 1) 61 4)) (stable_fi (w.heap.size + 1 + 1) (.slice A7 rs.length c7) rs (.slice A8 ds.length c8) ds)) rfl (by kernel_rfl) (by kernel_rfl) (by kernel_rfl) (fun _ _ _ h => h) ?_ ?_
          rotate_left
          · first | (refine Or.inl ⟨by rfl, fun W hS => detR_value (w' := W) ?_ (Below.refl _ _)⟩; obtain ⟨⟨hH, q1⟩, q2⟩ := hS; obtain ⟨x0, x1, x2, x3, _⟩ := hH.1; go_simp; first | done | with_reducible rfl) | fail
          simp only [Act.put, List.setIfInBounds_toArray, List.set_cons_zero, List.set_cons_succ]
          refine takeW (i := 8) (v := ?_) (Stable.and (Stable.and (Stable.held _ _) (stable_blkN (w.heap.size + 1) 61 4)) (stable_fi (w.heap.size + 1 + 1) (.slice A7 rs.length c7) rs (.slice A8 ds.length c8) ds)) rfl (by kernel_rfl) (by kernel_rfl) (by kernel_rfl) (fun _ _ _ h => h) ?_ ?_
          rotate_left
          · first | (refine Or.inr ⟨by rfl, ?_⟩; with_reducible rfl) | (refine Or.inl ⟨by rfl, fun W hS => detR_value (w' := W) ?_ (Below.refl _ _)⟩; obtain ⟨⟨hH, q1⟩, q2⟩ := hS; obtain ⟨x0, x1, x2, x3, _⟩ := hH.1; go_simp; first | done | with_reducible rfl) | fail
          simp only [Act.put, List.setIfInBounds_toArray, List.set_cons_zero, List.set_cons_succ]
          refine takeW (i := 9) (v := ?_) (Stable.and (Stable.and (Stable.held _ _) (stable_blkN (w.heap.size + 1) 61 4)) (stable_fi (w.heap.size + 1 + 1) (.slice A7 rs.length c7) rs (.slice A8 ds.length c8) ds)) rfl (by kernel_rfl) (by kernel_rfl) (by kernel_rfl) (fun _ _ _ h => h) ?_ ?_
          rotate_left
          · first | (refine Or.inr ⟨by rfl, ?_⟩; with_reducible rfl) | (refine Or.inl ⟨by rfl, fun W hS => detR_value (w' := W) ?_ (Below.refl _ _)⟩; obtain ⟨⟨hH, q1⟩, q2⟩ := hS; obtain ⟨x0, x1, x2, x3, _⟩ := hH.1; go_simp; first | done | with_reducible rfl) | fail
          simp only [Act.put, List.setIfInBounds_toArray, List.set_cons_zero, List.set_cons_succ]
          refine takeW (i := 10) (v := ?_) (Stable.and (Stable.and (Stable.held _ _) (stable_blkN (w.heap.size + 1) 61 4)) (stable_fi (w.heap.size + 1 + 1) (.slice A7 rs.length c7) rs (.slice A8 ds.length c8) ds)) rfl (by kernel_rfl) (by kernel_rfl) (by kernel_rfl) (fun _ _ _ h => h) ?_ ?_
          rotate_left
          · first | (refine Or.inl ⟨by rfl, fun W hS => detR_value (w' := W) ?_ (Below.refl _ _)⟩; obtain ⟨⟨hH, q1⟩, q2⟩ := hS; obtain ⟨x0, x1, x2, x3, _⟩ := hH.1; go_simp; first | done | with_reducible rfl) | fail
          simp only [Act.put, List.setIfInBounds_toArray, List.set_cons_zero, List.set_cons_succ]
          refine takeW (i := 11) (v := ?_) (Stable.and (Stable.and (Stable.held _ _) (stable_blkN (w.heap.size + 1) 61 4)) (stable_fi (w.heap.size + 1 + 1) (.slice A7 rs.length c7) rs (.slice A8 ds.length c8) ds)) rfl (by kernel_rfl) (by kernel_rfl) (by kernel_rfl) (fun _ _ _ h => h) ?_ ?_
          rotate_left
          · first | (refine Or.inl ⟨by rfl, fun W hS => detR_value (w' := W) ?_ (Below.refl _ _)⟩; obtain ⟨⟨hH, q1⟩, q2⟩ := hS; obtain ⟨x0, x1, x2, x3, _⟩ := hH.1; go_simp; first | done | with_reducible rfl) | fail
          simp only [Act.put, List.setIfInBounds_toArray, List.set_cons_zero, List.set_cons_succ]
          refine takeW (i := 12) (v := ?_) (Stable.and (Stable.and (Stable.held _ _) (stable_blkN (w.heap.size + 1) 61 4)) (stable_fi (w.heap.size + 1 + 1) (.slice A7 rs.length c7) rs (.slice A8 ds.length c8) ds)) rfl (by kernel_rfl) (by kernel_rfl) (by kernel_rfl) (fun _ _ _ h => h) ?_ ?_
          rotate_left
          · first | (refine Or.inr ⟨by rfl, ?_⟩; with_reducible rfl) | (refine Or.inl ⟨by rfl, fun W hS => detR_value (w' := W) ?_ (Below.refl _ _)⟩; obtain ⟨⟨hH, q1⟩, q2⟩ := hS; obtain ⟨x0, x1, x2, x3, _⟩ := hH.1; go_simp; first | done | with_reducible rfl) | fail
          simp only [Act.put, List.setIfInBounds_toArray, List.set_cons_zero, List.set_cons_succ]
          refine takeW (i := 13) (v := ?_) (Stable.and (Stable.and (Stable.held _ _) (stable_blkN (w.heap.size + 1) 61 4)) (stable_fi (w.heap.size + 1 + 1) (.slice A7 rs.length c7) rs (.slice A8 ds.length c8) ds)) rfl (by kernel_rfl) (by kernel_rfl) (by kernel_rfl) (fun _ _ _ h => h) ?_ ?_
          rotate_left
          · first | (refine Or.inr ⟨by rfl, ?_⟩; with_reducible rfl) | (refine Or.inl ⟨by rfl, fun W hS => detR_value (w' := W) ?_ (Below.refl _ _)⟩; obtain ⟨⟨hH, q1⟩, q2⟩ := hS; obtain ⟨x0, x1, x2, x3, _⟩ := hH.1; go_simp; first | done | with_reducible rfl) | fail
          simp only [Act.put, List.setIfInBounds_toArray, List.set_cons_zero, List.set_cons_succ]
          refine takeW (i := 14) (v := ?_) (Stable.and (Stable.and (Stable.held _ _) (stable_blkN (w.heap.size + 1) 61 4)) (stable_fi (w.heap.size + 1 + 1) (.slice A7 rs.length c7) rs (.slice A8 ds.length c8) ds)) rfl (by kernel_rfl) (by kernel_rfl) (by kernel_rfl) (fun _ _ _ h => h) ?_ ?_
          rotate_left
          · first | (refine Or.inl ⟨by rfl, fun W hS => detR_value (w' := W) ?_ (Below.refl _ _)⟩; obtain ⟨⟨hH, q1⟩, q2⟩ := hS; obtain ⟨x0, x1, x2, x3, _⟩ := hH.1; go_simp; first | done | with_reducible rfl) | fail
          simp only [Act.put, List.setIfInBounds_toArray, List.set_cons_zero, List.set_cons_succ]
          refine storeK (i := 15) (b := w.heap.size + 1) #[.slice A ns.length c, .slice A2 ls.length c2, .slice A7 rs.length c7, .slice A8 ds.length c8] (Stable.and (Stable.and (Stable.held _ _) (stable_blkN (w.heap.size + 1) 61 4)) (stable_fi (w.heap.size + 1 + 1) (.slice A7 rs.length c7) rs (.slice A8 ds.length c8) ds)) (fun W hS => by obtain ⟨⟨hH, q1⟩, q2⟩ := hS; exact q1) (fun W hS => by obtain ⟨⟨hH, q1⟩, q2⟩ := hS; exact ⟨⟨hH.setRowAt (by simp; omega) (Nat.le_succ _) _, q1.setRow rfl⟩, q2.setRow (Nat.lt_succ_self _) _⟩) rfl (by kernel_rfl) (by rfl) rfl (by rfl) (by rfl) rfl (by kernel_rfl) (by simp [Value.oneCell']) ?_
          simp only [Act.put, List.setIfInBounds_toArray, List.set_cons_zero, List.set_cons_succ]
          refine takeW (i := 16) (v := ?_) (Stable.and (Stable.and (Stable.and (Stable.held _ _) (stable_blkN (w.heap.size + 1) 61 4)) (stable_fi (w.heap.size + 1 + 1) (.slice A7 rs.length c7) rs (.slice A8 ds.length c8) ds)) (stable_blkIs _ _ _)) rfl (by kernel_rfl) (by kernel_rfl) (by kernel_rfl) (fun _ _ _ h => h) ?_ ?_
          rotate_left
          · first | (refine Or.inl ⟨by rfl, fun W hS => detR_value (w' := W) ?_ (Below.refl _ _)⟩; obtain ⟨⟨⟨hH, q1⟩, q2⟩, hs⟩ := hS; obtain ⟨x0, x1, x2, x3, _⟩ := hH.1; go_simp; first | done | with_reducible rfl) | fail
          simp only [Act.put, List.setIfInBounds_toArray, List.set_cons_zero, List.set_cons_succ]
          refine doneW (by kernel_rfl) fun wH7 HG => ?_
          obtain ⟨⟨⟨hH, q1⟩, q2⟩, hs⟩ := HG
          have H7 := Lib.hid hH; clear hH
          have MH7_q1 := Lib.hid q1; clear q1
          have MH7_q2 := Lib.hid q2; clear q2
          have MH7_s := Lib.hid hs; clear hs
          try clear x0 x1 x2 x3
          have r0 := (cell_of_cells (k := 0) MH7_s.out).trans (rfl : _ = some (Value.slice A ns.length c))
          have r1 := (cell_of_cells (k := 1) MH7_s.out).trans (rfl : _ = some (Value.slice A2 ls.length c2))
          have r2 := (cell_of_cells (k := 2) MH7_s.out).trans (rfl : _ = some (Value.slice A7 rs.length c7))
          have r3 := (cell_of_cells (k := 3) MH7_s.out).trans (rfl : _ = some (Value.slice A8 ds.length c8))
          go_wp2_with fail
          refine bodyPost_ret (v := .tuple #[.agg #[.slice A ns.length c, .slice A2 ls.length c2, .slice A7 rs.length c7, .slice A8 ds.length c8], .bool false]) (by simp [results, Tryz.results43, go_sem, r0, r1, r2, r3]) rfl ⟨_, _, _, _, by first | (rw [HRES.out]; done) | (rw [HRES.out]; rfl), ?_, ?_, ?_, ?_, H7.out.below⟩
          · rw [HGN.out]; exact HN.out.step H7.out.below
          · rw [HGL2.out]; exact HL.out.step H7.out.below
          · rw [HWF.out]; exact MH7_q2.out.f.mono (by omega)
          · rw [HGA.out]; exact MH7_q2.out.a.mono (by omega)
      · cases q
        · refine regionW (fun W => ((Held _ W [(w1.heap.size, 0, .slice A ns.length c), (w1.heap.size, 1, .slice A2 ls.length c2), (w1.heap.size, 2, .slice A7 rs.length c7), (w1.heap.size, 3, .slice A8 ds.length c8)]) ∧ BlkN (w.heap.size + 1) 61 4 W) ∧ FI (w.heap.size + 1 + 1) (.slice A7 rs.length c7) rs (.slice A8 ds.length c8) ds W) (by kernel_rfl) ⟨⟨H8.out.drew, HK9.out⟩, (FI9.out).step ((Below.refl _ _).drew)⟩ ?_
          refine takeW (i := 0) (v := ?_) (Stable.and (Stable.and (Stable.held _ _) (stable_blkN (w.heap.size + 1) 61 4)) (stable_fi (w.heap.size + 1 + 1) (.slice A7 rs.length c7) rs (.slice A8 ds.length c8) ds)) rfl (by kernel_rfl) (by kernel_rfl) (by kernel_rfl) (fun _ _ _ h => h) ?_ ?_
          rotate_left
          · first | (refine Or.inl ⟨by rfl, fun W hS => detR_value (w' := W) ?_ (Below.refl _ _)⟩; obtain ⟨⟨hH, q1⟩, q2⟩ := hS; obtain ⟨x0, x1, x2, x3, _⟩ := hH.1; go_simp; first | done | with_reducible rfl) | fail
          simp only [Act.put, List.setIfInBounds_toArray, List.set_cons_zero, List.set_cons_succ]
          refine takeW (i := 1) (v := ?_) (Stable.and (Stable.and (Stable.held _ _) (stable_blkN (w.heap.size + 1) 61 4)) (stable_fi (w.heap.size + 1 + 1) (.slice A7 rs.length c7) rs (.slice A8 ds.length c8) ds)) rfl (by kernel_rfl) (by kernel_rfl) (by kernel_rfl) (fun _ _ _ h => h) ?_ ?_
          rotate_left
          · first | (refine Or.inl ⟨by rfl, fun W hS => detR_value (w' := W) ?_ (Below.refl _ _)⟩; obtain ⟨⟨hH, q1⟩, q2⟩ := hS; obtain ⟨x0, x1, x2, x3, _⟩ := hH.1; go_simp; first | done | with_reducible rfl) | fail
          simp only [Act.put, List.setIfInBounds_toArray, List.set_cons_zero, List.set_cons_succ]
          refine takeW (i := 2) (v := ?_) (Stable.and (Stable.and (Stable.held _ _) (stable_blkN (w.heap.size + 1) 61 4)) (stable_fi (w.heap.size + 1 + 1) (.slice A7 rs.length c7) rs (.slice A8 ds.length c8) ds)) rfl (by kernel_rfl) (by kernel_rfl) (by kernel_rfl) (fun _ _ _ h => h) ?_ ?_
          rotate_left
          · first | (refine Or.inl ⟨by rfl, fun W hS => detR_value (w' := W) ?_ (Below.refl _ _)⟩; obtain ⟨⟨hH, q1⟩, q2⟩ := hS; obtain ⟨x0, x1, x2, x3, _⟩ := hH.1; go_simp; first | done | with_reducible rfl) | fail
          simp only [Act.put, List.setIfInBounds_toArray, List.set_cons_zero, List.set_cons_succ]
          refine takeW (i := 3) (v := ?_) (Stable.and (Stable.and (Stable.held _ _) (stable_blkN (w.heap.size + 1) 61 4)) (stable_fi (w.heap.size + 1 + 1) (.slice A7 rs.length c7) rs (.slice A8 ds.length c8) ds)) rfl (by kernel_rfl) (by kernel_rfl) (by kernel_rfl) (fun _ _ _ h => h) ?_ ?_
          rotate_left
          · first | (refine Or.inr ⟨by rfl, ?_⟩; with_reducible rfl) | (refine Or.inl ⟨by rfl, fun W hS => detR_value (w' := W) ?_ (Below.refl _ _)⟩; obtain ⟨⟨hH, q1⟩, q2⟩ := hS; obtain ⟨x0, x1, x2, x3, _⟩ := hH.1; go_simp; first | done | with_reducible rfl) | fail
          simp only [Act.put, List.setIfInBounds_toArray, List.set_cons_zero, List.set_cons_succ]
          refine takeW (i := 4) (v := ?_) (Stable.and (Stable.and (Stable.held _ _) (stable_blkN (w.heap.size + 1) 61 4)) (stable_fi (w.heap.size + 1 + 1) (.slice A7 rs.length c7) rs (.slice A8 ds.length c8) ds)) rfl (by kernel_rfl) (by kernel_rfl) (by kernel_rfl) (fun _ _ _ h => h) ?_ ?_
          rotate_left
          · first | (refine Or.inr ⟨by rfl, ?_⟩; with_reducible rfl) | (refine Or.inl ⟨by rfl, fun W hS => detR_value (w' := W) ?_ (Below.refl _ _)⟩; obtain ⟨⟨hH, q1⟩, q2⟩ := hS; obtain ⟨x0, x1, x2, x3, _⟩ := hH.1; go_simp; first | done | with_reducible rfl) | fail
          simp only [Act.put, List.setIfInBounds_toArray, List.set_cons_zero, List.set_cons_succ]
          refine takeW (i := 5) (v := ?_) (Stable.and (Stable.and (Stable.held _ _) (stable_blkN (w.heap.size + 1) 61 4)) (stable_fi (w.heap.size + 1 + 1) (.slice A7 rs.length c7) rs (.slice A8 ds.length c8) ds)) rfl (by kernel_rfl) (by kernel_rfl) (by kernel_rfl) (fun _ _ _ h => h) ?_ ?_
          rotate_left
          · first | (refine Or.inr ⟨by rfl, ?_⟩; with_reducible rfl) | (refine Or.inl ⟨by rfl, fun W hS => ?_⟩; obtain ⟨⟨hH, q1⟩, q2⟩ := hS; refine detR_call (w' := W) (f := ?_) (args := ?_) ?_ ?_; rotate_left 2; (go_simp; (refine ⟨?_, ?_⟩ <;> with_reducible rfl)); (first | (with_reducible refine (HT.out _ _ _ _ _ _ _ _ _ _ _ _ hH.below).mono ?_) | fail); (first | (rintro e wn ⟨rfl, hb⟩; refine ⟨?_, hb⟩; with_reducible rfl) | (rintro e wn ⟨rfl, rfl⟩; refine ⟨?_, Below.refl _ _⟩; with_reducible rfl) | fail)) | fail
          simp only [Act.put, List.setIfInBounds_toArray, List.set_cons_zero, List.set_cons_succ]
          refine takeW (i := 6) (v := ?_) (Stable.and (Stable.and (Stable.held _ _) (stable_blkN (w.heap.size + 1) 61 4)) (stable_fi (w.heap.size + 1 + 1) (.slice A7 rs.length c7) rs (.slice A8 ds.length c8) ds)) rfl (by kernel_rfl) (by kernel_rfl) (by kernel_rfl) (fun _ _ _ h => h) ?_ ?_
          rotate_left
          · first | (refine Or.inl ⟨by rfl, fun W hS => detR_value (w' := W) ?_ (Below.refl _ _)⟩; obtain ⟨⟨hH, q1⟩, q2⟩ := hS; obtain ⟨x0, x1, x2, x3, _⟩ := hH.1; go_simp; first | done | with_reducible rfl) | fail
          simp only [Act.put, List.setIfInBounds_toArray, List.set_cons_zero, List.set_cons_succ]
          refine takeW (i := 7) (v := ?_) (Stable.and (Stable.and (Stable.held _ _) (stable_blkN (w.heap.size + 1) 61 4)) (stable_fi (w.heap.size + 1 + 1) (.slice A7 rs.length c7) rs (.slice A8 ds.length c8) ds)) rfl (by kernel_rfl) (by kernel_rfl) (by kernel_rfl) (fun _ _ _ h => h) ?_ ?_
          rotate_left
          · first | (refine Or.inl ⟨by rfl, fun W hS => detR_value (w' := W) ?_ (Below.refl _ _)⟩; obtain ⟨⟨hH, q1⟩, q2⟩ := hS; obtain ⟨x0, x1, x2, x3, _⟩ := hH.1; go_simp; first | done | with_reducible rfl) | fail
          simp only [Act.put, List.setIfInBounds_toArray, List.set_cons_zero, List.set_cons_succ]
          refine takeW (i := 8) (v := ?_) (Stable.and (Stable.and (Stable.held _ _) (stable_blkN (w.heap.size + 1) 61 4)) (stable_fi (w.heap.size + 1 + 1) (.slice A7 rs.length c7) rs (.slice A8 ds.length c8) ds)) rfl (by kernel_rfl) (by kernel_rfl) (by kernel_rfl) (fun _ _ _ h => h) ?_ ?_
          rotate_left
          · first | (refine Or.inr ⟨by rfl, ?_⟩; with_reducible rfl) | (refine Or.inl ⟨by rfl, fun W hS => detR_value (w' := W) ?_ (Below.refl _ _)⟩; obtain ⟨⟨hH, q1⟩, q2⟩ := hS; obtain ⟨x0, x1, x2, x3, _⟩ := hH.1; go_simp; first | done | with_reducible rfl) | fail
          simp only [Act.put, List.setIfInBounds_toArray, List.set_cons_zero, List.set_cons_succ]
          refine takeW (i := 9) (v := ?_) (Stable.and (Stable.and (Stable.held _ _) (stable_blkN (w.heap.size + 1) 61 4)) (stable_fi (w.heap.size + 1 + 1) (.slice A7 rs.length c7) rs (.slice A8 ds.length c8) ds)) rfl (by kernel_rfl) (by kernel_rfl) (by kernel_rfl) (fun _ _ _ h => h) ?_ ?_
          rotate_left
          · first | (refine Or.inr ⟨by rfl, ?_⟩; with_reducible rfl) | (refine Or.inl ⟨by rfl, fun W hS => detR_value (w' := W) ?_ (Below.refl _ _)⟩; obtain ⟨⟨hH, q1⟩, q2⟩ := hS; obtain ⟨x0, x1, x2, x3, _⟩ := hH.1; go_simp; first | done | with_reducible rfl) | fail
          simp only [Act.put, List.setIfInBounds_toArray, List.set_cons_zero, List.set_cons_succ]
          refine takeW (i := 10) (v := ?_) (Stable.and (Stable.and (Stable.held _ _) (stable_blkN (w.heap.size + 1) 61 4)) (stable_fi (w.heap.size + 1 + 1) (.slice A7 rs.length c7) rs (.slice A8 ds.length c8) ds)) rfl (by kernel_rfl) (by kernel_rfl) (by kernel_rfl) (fun _ _ _ h => h) ?_ ?_
          rotate_left
          · first | (refine Or.inl ⟨by rfl, fun W hS => detR_value (w' := W) ?_ (Below.refl _ _)⟩; obtain ⟨⟨hH, q1⟩, q2⟩ := hS; obtain ⟨x0, x1, x2, x3, _⟩ := hH.1; go_simp; first | done | with_reducible rfl) | fail
          simp only [Act.put, List.setIfInBounds_toArray, List.set_cons_zero, List.set_cons_succ]
          refine takeW (i := 11) (v := ?_) (Stable.and (Stable.and (Stable.held _ _) (stable_blkN (w.heap.size + 1) 61 4)) (stable_fi (w.heap.size + 1 + 1) (.slice A7 rs.length c7) rs (.slice A8 ds.length c8) ds)) rfl (by kernel_rfl) (by kernel_rfl) (by kernel_rfl) (fun _ _ _ h => h) ?_ ?_
          rotate_left
          · first | (refine Or.inl ⟨by rfl, fun W hS => detR_value (w' := W) ?_ (Below.refl _ _)⟩; obtain ⟨⟨hH, q1⟩, q2⟩ := hS; obtain ⟨x0, x1, x2, x3, _⟩ := hH.1; go_simp; first | done | with_reducible rfl) | fail
          simp only [Act.put, List.setIfInBounds_toArray, List.set_cons_zero, List.set_cons_succ]
          refine takeW (i := 12) (v := ?_) (Stable.and (Stable.and (Stable.held _ _) (stable_blkN (w.heap.size + 1) 61 4)) (stable_fi (w.heap.size + 1 + 1) (.slice A7 rs.length c7) rs (.slice A8 ds.length c8) ds)) rfl (by kernel_rfl) (by kernel_rfl) (by kernel_rfl) (fun _ _ _ h => h) ?_ ?_
          rotate_left
          · first | (refine Or.inr ⟨by rfl, ?_⟩; with_reducible rfl) | (refine Or.inl ⟨by rfl, fun W hS => detR_value (w' := W) ?_ (Below.refl _ _)⟩; obtain ⟨⟨hH, q1⟩, q2⟩ := hS; obtain ⟨x0, x1, x2, x3, _⟩ := hH.1; go_simp; first | done | with_reducible rfl) | fail
          simp only [Act.put, List.setIfInBounds_toArray, List.set_cons_zero, List.set_cons_succ]
          refine takeW (i := 13) (v := ?_) (Stable.and (Stable.and (Stable.held _ _) (stable_blkN (w.heap.size + 1) 61 4)) (stable_fi (w.heap.size + 1 + 1) (.slice A7 rs.length c7) rs (.slice A8 ds.length c8) ds)) rfl (by kernel_rfl) (by kernel_rfl) (by kernel_rfl) (fun _ _ _ h => h) ?_ ?_
          rotate_left
          · first | (refine Or.inr ⟨by rfl, ?_⟩; with_reducible rfl) | (refine Or.inl ⟨by rfl, fun W hS => detR_value (w' := W) ?_ (Below.refl _ _)⟩; obtain ⟨⟨hH, q1⟩, q2⟩ := hS; obtain ⟨x0, x1, x2, x3, _⟩ := hH.1; go_simp; first | done | with_reducible rfl) | fail
          simp only [Act.put, List.setIfInBounds_toArray, List.set_cons_zero, List.set_cons_succ]
          refine takeW (i := 14) (v := ?_) (Stable.and (Stable.and (Stable.held _ _) (stable_blkN (w.heap.size + 1) 61 4)) (stable_fi (w.heap.size + 1 + 1) (.slice A7 rs.length c7) rs (.slice A8 ds.length c8) ds)) rfl (by kernel_rfl) (by kernel_rfl) (by kernel_rfl) (fun _ _ _ h => h) ?_ ?_
          rotate_left
          · first | (refine Or.inl ⟨by rfl, fun W hS => detR_value (w' := W) ?_ (Below.refl _ _)⟩; obtain ⟨⟨hH, q1⟩, q2⟩ := hS; obtain ⟨x0, x1, x2, x3, _⟩ := hH.1; go_simp; first | done | with_reducible rfl) | fail
          simp only [Act.put, List.setIfInBounds_toArray, List.set_cons_zero, List.set_cons_succ]
          refine storeK (i := 15) (b := w.heap.size + 1) #[.slice A ns.length c, .slice A2 ls.length c2, .slice A7 rs.length c7, .slice A8 ds.length c8] (Stable.and (Stable.and (Stable.held _ _) (stable_blkN (w.heap.size + 1) 61 4)) (stable_fi (w.heap.size + 1 + 1) (.slice A7 rs.length c7) rs (.slice A8 ds.length c8) ds)) (fun W hS => by obtain ⟨⟨hH, q1⟩, q2⟩ := hS; exact q1) (fun W hS => by obtain ⟨⟨hH, q1⟩, q2⟩ := hS; exact ⟨⟨hH.setRowAt (by simp; omega) (Nat.le_succ _) _, q1.setRow rfl⟩, q2.setRow (Nat.lt_succ_self _) _⟩) rfl (by kernel_rfl) (by rfl) rfl (by rfl) (by rfl) rfl (by kernel_rfl) (by simp [Value.oneCell']) ?_
          simp only [Act.put, List.setIfInBounds_toArray, List.set_cons_zero, List.set_cons_succ]
          refine takeW (i := 16) (v := ?_) (Stable.and (Stable.and (Stable.and (Stable.held _ _) (stable_blkN (w.heap.size + 1) 61 4)) (stable_fi (w.heap.size + 1 + 1) (.slice A7 rs.length c7) rs (.slice A8 ds.length c8) ds)) (stable_blkIs _ _ _)) rfl (by kernel_rfl) (by kernel_rfl) (by kernel_rfl) (fun _ _ _ h => h) ?_ ?_
          rotate_left
          · first | (refine Or.inl ⟨by rfl, fun W hS => detR_value (w' := W) ?_ (Below.refl _ _)⟩; obtain ⟨⟨⟨hH, q1⟩, q2⟩, hs⟩ := hS; obtain ⟨x0, x1, x2, x3, _⟩ := hH.1; go_simp; first | done | with_reducible rfl) | fail
          simp only [Act.put, List.setIfInBounds_toArray, List.set_cons_zero, List.set_cons_succ]
          refine doneW (by kernel_rfl) fun wH7 HG => ?_
          obtain ⟨⟨⟨hH, q1⟩, q2⟩, hs⟩ := HG
          have H7 := Lib.hid hH; clear hH
          have MH7_q1 := Lib.hid q1; clear q1
          have MH7_q2 := Lib.hid q2; clear q2
          have MH7_s := Lib.hid hs; clear hs
          try clear x0 x1 x2 x3
          have r0 := (cell_of_cells (k := 0) MH7_s.out).trans (rfl : _ = some (Value.slice A ns.length c))
          have r1 := (cell_of_cells (k := 1) MH7_s.out).trans (rfl : _ = some (Value.slice A2 ls.length c2))
          have r2 := (cell_of_cells (k := 2) MH7_s.out).trans (rfl : _ = some (Value.slice A7 rs.length c7))
          have r3 := (cell_of_cells (k := 3) MH7_s.out).trans (rfl : _ = some (Value.slice A8 ds.length c8))
          go_wp2_with fail
          refine bodyPost_ret (v := .tuple #[.agg #[.slice A ns.length c, .slice A2 ls.length c2, .slice A7 rs.length c7, .slice A8 ds.length c8], .bool false]) (by simp [results, Tryz.results43, go_sem, r0, r1, r2, r3]) rfl ⟨_, _, _, _, by first | (rw [HRES.out]; done) | (rw [HRES.out]; rfl), ?_, ?_, ?_, ?_, H7.out.below⟩
          · rw [HGN.out]; exact HN.out.step H7.out.below
          · rw [HGL2.out]; exact HL.out.step H7.out.below
          · rw [HWF.out]; exact MH7_q2.out.f.mono (by omega)
          · rw [HGA.out]; exact MH7_q2.out.a.mono (by omega)
        · refine regionW (fun W => ((Held _ W [(w1.heap.size, 0, .slice A ns.length c), (w1.heap.size, 1, .slice A2 ls.length c2), (w1.heap.size, 2, .slice A7 rs.length c7), (w1.heap.size, 3, .slice A8 ds.length c8)]) ∧ BlkN (w.heap.size + 1) 61 4 W) ∧ FI (w.heap.size + 1 + 1) (.slice A7 rs.length c7) rs (.slice A8 ds.length c8) ds W) (by kernel_rfl) ⟨⟨H8.out.drew, HK9.out⟩, (FI9.out).step ((Below.refl _ _).drew)⟩ ?_
          refine takeW (i := 0) (v := ?_) (Stable.and (Stable.and (Stable.held _ _) (stable_blkN (w.heap.size + 1) 61 4)) (stable_fi (w.heap.size + 1 + 1) (.slice A7 rs.length c7) rs (.slice A8 ds.length c8) ds)) rfl (by kernel_rfl) (by kernel_rfl) (by kernel_rfl) (fun _ _ _ h => h) ?_ ?_
          rotate_left
          · first | (refine Or.inl ⟨by rfl, fun W hS => detR_value (w' := W) ?_ (Below.refl _ _)⟩; obtain ⟨⟨hH, q1⟩, q2⟩ := hS; obtain ⟨x0, x1, x2, x3, _⟩ := hH.1; go_simp; first | done | with_reducible rfl) | fail
          simp only [Act.put, List.setIfInBounds_toArray, List.set_cons_zero, List.set_cons_succ]
          refine takeW (i := 1) (v := ?_) (Stable.and (Stable.and (Stable.held _ _) (stable_blkN (w.heap.size + 1) 61 4)) (stable_fi (w.heap.size + 1 + 1) (.slice A7 rs.length c7) rs (.slice A8 ds.length c8) ds)) rfl (by kernel_rfl) (by kernel_rfl) (by kernel_rfl) (fun _ _ _ h => h) ?_ ?_
          rotate_left
          · first | (refine Or.inl ⟨by rfl, fun W hS => detR_value (w' := W) ?_ (Below.refl _ _)⟩; obtain ⟨⟨hH, q1⟩, q2⟩ := hS; obtain ⟨x0, x1, x2, x3, _⟩ := hH.1; go_simp; first | done | with_reducible rfl) | fail
          simp only [Act.put, List.setIfInBounds_toArray, List.set_cons_zero, List.set_cons_succ]
          refine takeW (i := 2) (v := ?_) (Stable.and (Stable.and (Stable.held _ _) (stable_blkN (w.heap.size + 1) 61 4)) (stable_fi (w.heap.size + 1 + 1) (.slice A7 rs.length c7) rs (.slice A8 ds.length c8) ds)) rfl (by kernel_rfl) (by kernel_rfl) (by kernel_rfl) (fun _ _ _ h => h) ?_ ?_
          rotate_left
          · first | (refine Or.inl ⟨by rfl, fun W hS => detR_value (w' := W) ?_ (Below.refl _ _)⟩; obtain ⟨⟨hH, q1⟩, q2⟩ := hS; obtain ⟨x0, x1, x2, x3, _⟩ := hH.1; go_simp; first | done | with_reducible rfl) | fail
          simp only [Act.put, List.setIfInBounds_toArray, List.set_cons_zero, List.set_cons_succ]
          refine takeW (i := 3) (v := ?_) (Stable.and (Stable.and (Stable.held _ _) (stable_blkN (w.heap.size + 1) 61 4)) (stable_fi (w.heap.size + 1 + 1) (.slice A7 rs.length c7) rs (.slice A8 ds.length c8) ds)) rfl (by kernel_rfl) (by kernel_rfl) (by kernel_rfl) (fun _ _ _ h => h) ?_ ?_
          rotate_left
          · first | (refine Or.inr ⟨by rfl, ?_⟩; with_reducible rfl) | (refine Or.inl ⟨by rfl, fun W hS => detR_value (w' := W) ?_ (Below.refl _ _)⟩; obtain ⟨⟨hH, q1⟩, q2⟩ := hS; obtain ⟨x0, x1, x2, x3, _⟩ := hH.1; go_simp; first | done | with_reducible rfl) | fail
          simp only [Act.put, List.setIfInBounds_toArray, List.set_cons_zero, List.set_cons_succ]
          refine takeW (i := 4) (v := ?_) (Stable.and (Stable.and (Stable.held _ _) (stable_blkN (w.heap.size + 1) 61 4)) (stable_fi (w.heap.size + 1 + 1) (.slice A7 rs.length c7) rs (.slice A8 ds.length c8) ds)) rfl (by kernel_rfl) (by kernel_rfl) (by kernel_rfl) (fun _ _ _ h => h) ?_ ?_
          rotate_left
          · first | (refine Or.inr ⟨by rfl, ?_⟩; with_reducible rfl) | (refine Or.inl ⟨by rfl, fun W hS => detR_value (w' := W) ?_ (Below.refl _ _)⟩; obtain ⟨⟨hH, q1⟩, q2⟩ := hS; obtain ⟨x0, x1, x2, x3, _⟩ := hH.1; go_simp; first | done | with_reducible rfl) | fail
          simp only [Act.put, List.setIfInBounds_toArray, List.set_cons_zero, List.set_cons_succ]
          refine takeW (i := 5) (v := ?_) (Stable.and (Stable.and (Stable.held _ _) (stable_blkN (w.heap.size + 1) 61 4)) (stable_fi (w.heap.size + 1 + 1) (.slice A7 rs.length c7) rs (.slice A8 ds.length c8) ds)) rfl (by kernel_rfl) (by kernel_rfl) (by kernel_rfl) (fun _ _ _ h => h) ?_ ?_
          rotate_left
          · first | (refine Or.inr ⟨by rfl, ?_⟩; with_reducible rfl) | (refine Or.inl ⟨by rfl, fun W hS => ?_⟩; obtain ⟨⟨hH, q1⟩, q2⟩ := hS; refine detR_call (w' := W) (f := ?_) (args := ?_) ?_ ?_; rotate_left 2; (go_simp; (refine ⟨?_, ?_⟩ <;> with_reducible rfl)); (first | (with_reducible refine (HT.out _ _ _ _ _ _ _ _ _ _ _ _ hH.below).mono ?_) | fail); (first | (rintro e wn ⟨rfl, hb⟩; refine ⟨?_, hb⟩; with_reducible rfl) | (rintro e wn ⟨rfl, rfl⟩; refine ⟨?_, Below.refl _ _⟩; with_reducible rfl) | fail)) | fail
          simp only [Act.put, List.setIfInBounds_toArray, List.set_cons_zero, List.set_cons_succ]
          refine takeW (i := 6) (v := ?_) (Stable.and (Stable.and (Stable.held _ _) (stable_blkN (w.heap.size + 1) 61 4)) (stable_fi (w.heap.size + 1 + 1) (.slice A7 rs.length c7) rs (.slice A8 ds.length c8) ds)) rfl (by kernel_rfl) (by kernel_rfl) (by kernel_rfl) (fun _ _ _ h => h) ?_ ?_
          rotate_left
          · first | (refine Or.inl ⟨by rfl, fun W hS => detR_value (w' := W) ?_ (Below.refl _ _)⟩; obtain ⟨⟨hH, q1⟩, q2⟩ := hS; obtain ⟨x0, x1, x2, x3, _⟩ := hH.1; go_simp; first | done | with_reducible rfl) | fail
          simp only [Act.put, List.setIfInBounds_toArray, List.set_cons_zero, List.set_cons_succ]
          refine takeW (i := 7) (v := ?_) (Stable.and (Stable.and (Stable.held _ _) (stable_blkN (w.heap.size + 1) 61 4)) (stable_fi (w.heap.size + 1 + 1) (.slice A7 rs.length c7) rs (.slice A8 ds.length c8) ds)) rfl (by kernel_rfl) (by kernel_rfl) (by kernel_rfl) (fun _ _ _ h => h) ?_ ?_
          rotate_left
          · first | (refine Or.inl ⟨by rfl, fun W hS => detR_value (w' := W) ?_ (Below.refl _ _)⟩; obtain ⟨⟨hH, q1⟩, q2⟩ := hS; obtain ⟨x0, x1, x2, x3, _⟩ := hH.1; go_simp; first | done | with_reducible rfl) | fail
          simp only [Act.put, List.setIfInBounds_toArray, List.set_cons_zero, List.set_cons_succ]
          refine takeW (i := 8) (v := ?_) (Stable.and (Stable.and (Stable.held _ _) (stable_blkN (w.heap.size + 1) 61 4)) (stable_fi (w.heap.size + 1 + 1) (.slice A7 rs.length c7) rs (.slice A8 ds.length c8) ds)) rfl (by kernel_rfl) (by kernel_rfl) (by kernel_rfl) (fun _ _ _ h => h) ?_ ?_
          rotate_left
          · first | (refine Or.inr ⟨by rfl, ?_⟩; with_reducible rfl) | (refine Or.inl ⟨by rfl, fun W hS => detR_value (w' := W) ?_ (Below.refl _ _)⟩; obtain ⟨⟨hH, q1⟩, q2⟩ := hS; obtain ⟨x0, x1, x2, x3, _⟩ := hH.1; go_simp; first | done | with_reducible rfl) | fail
          simp only [Act.put, List.setIfInBounds_toArray, List.set_cons_zero, List.set_cons_succ]
          refine takeW (i := 9) (v := ?_) (Stable.and (Stable.and (Stable.held _ _) (stable_blkN (w.heap.size + 1) 61 4)) (stable_fi (w.heap.size + 1 + 1) (.slice A7 rs.length c7) rs (.slice A8 ds.length c8) ds)) rfl (by kernel_rfl) (by kernel_rfl) (by kernel_rfl) (fun _ _ _ h => h) ?_ ?_
          rotate_left
          · first | (refine Or.inr ⟨by rfl, ?_⟩; with_reducible rfl) | (refine Or.inl ⟨by rfl, fun W hS => detR_value (w' := W) ?_ (Below.refl _ _)⟩; obtain ⟨⟨hH, q1⟩, q2⟩ := hS; obtain ⟨x0, x1, x2, x3, _⟩ := hH.1; go_simp; first | done | with_reducible rfl) | fail
          simp only [Act.put, List.setIfInBounds_toArray, List.set_cons_zero, List.set_cons_succ]
          refine takeW (i := 10) (v := ?_) (Stable.and (Stable.and (Stable.held _ _) (stable_blkN (w.heap.size + 1) 61 4)) (stable_fi (w.heap.size + 1 + 1) (.slice A7 rs.length c7) rs (.slice A8 ds.length c8) ds)) rfl (by kernel_rfl) (by kernel_rfl) (by kernel_rfl) (fun _ _ _ h => h) ?_ ?_
          rotate_left
          · first | (refine Or.inl ⟨by rfl, fun W hS => detR_value (w' := W) ?_ (Below.refl _ _)⟩; obtain ⟨⟨hH, q1⟩, q2⟩ := hS; obtain ⟨x0, x1, x2, x3, _⟩ := hH.1; go_simp; first | done | with_reducible rfl) | fail
          simp only [Act.put, List.setIfInBounds_toArray, List.set_cons_zero, List.set_cons_succ]
          refine takeW (i := 11) (v := ?_) (Stable.and (Stable.and (Stable.held _ _) (stable_blkN (w.heap.size + 1) 61 4)) (stable_fi (w.heap.size + 1 + 1) (.slice A7 rs.length c7) rs (.slice A8 ds.length c8) ds)) rfl (by kernel_rfl) (by kernel_rfl) (by kernel_rfl) (fun _ _ _ h => h) ?_ ?_
          rotate_left
          · first | (refine Or.inl ⟨by rfl, fun W hS => detR_value (w' := W) ?_ (Below.refl _ _)⟩; obtain ⟨⟨hH, q1⟩, q2⟩ := hS; obtain ⟨x0, x1, x2, x3, _⟩ := hH.1; go_simp; first | done | with_reducible rfl) | fail
          simp only [Act.put, List.setIfInBounds_toArray, List.set_cons_zero, List.set_cons_succ]
          refine takeW (i := 12) (v := ?_) (Stable.and (Stable.and (Stable.held _ _) (stable_blkN (w.heap.size + 1) 61 4)) (stable_fi (w.heap.size + 1 + 1) (.slice A7 rs.length c7) rs (.slice A8 ds.length c8) ds)) rfl (by kernel_rfl) (by kernel_rfl) (by kernel_rfl) (fun _ _ _ h => h) ?_ ?_
          rotate_left
          · first | (refine Or.inr ⟨by rfl, ?_⟩; with_reducible rfl) | (refine Or.inl ⟨by rfl, fun W hS => detR_value (w' := W) ?_ (Below.refl _ _)⟩; obtain ⟨⟨hH, q1⟩, q2⟩ := hS; obtain ⟨x0, x1, x2, x3, _⟩ := hH.1; go_simp; first | done | with_reducible rfl) | fail
          simp only [Act.put, List.setIfInBounds_toArray, List.set_cons_zero, List.set_cons_succ]
          refine takeW (i := 13) (v := ?_) (Stable.and (Stable.and (Stable.held _ _) (stable_blkN (w.heap.size + 1) 61 4)) (stable_fi (w.heap.size + 1 + 1) (.slice A7 rs.length c7) rs (.slice A8 ds.length c8) ds)) rfl (by kernel_rfl) (by kernel_rfl) (by kernel_rfl) (fun _ _ _ h => h) ?_ ?_
          rotate_left
          · first | (refine Or.inr ⟨by rfl, ?_⟩; with_reducible rfl) | (refine Or.inl ⟨by rfl, fun W hS => detR_value (w' := W) ?_ (Below.refl _ _)⟩; obtain ⟨⟨hH, q1⟩, q2⟩ := hS; obtain ⟨x0, x1, x2, x3, _⟩ := hH.1; go_simp; first | done | with_reducible rfl) | fail
          simp only [Act.put, List.setIfInBounds_toArray, List.set_cons_zero, List.set_cons_succ]
          refine takeW (i := 14) (v := ?_) (Stable.and (Stable.and (Stable.held _ _) (stable_blkN (w.heap.size + 1) 61 4)) (stable_fi (w.heap.size + 1 + 1) (.slice A7 rs.length c7) rs (.slice A8 ds.length c8) ds)) rfl (by kernel_rfl) (by kernel_rfl) (by kernel_rfl) (fun _ _ _ h => h) ?_ ?_
          rotate_left
          · first | (refine Or.inl ⟨by rfl, fun W hS => detR_value (w' := W) ?_ (Below.refl _ _)⟩; obtain ⟨⟨hH, q1⟩, q2⟩ := hS; obtain ⟨x0, x1, x2, x3, _⟩ := hH.1; go_simp; first | done | with_reducible rfl) | fail
          simp only [Act.put, List.setIfInBounds_toArray, List.set_cons_zero, List.set_cons_succ]
          refine storeK (i := 15) (b := w.heap.size + 1) #[.slice A ns.length c, .slice A2 ls.length c2, .slice A7 rs.length c7, .slice A8 ds.length c8] (Stable.and (Stable.and (Stable.held _ _) (stable_blkN (w.heap.size + 1) 61 4)) (stable_fi (w.heap.size + 1 + 1) (.slice A7 rs.length c7) rs (.slice A8 ds.length c8) ds)) (fun W hS => by obtain ⟨⟨hH, q1⟩, q2⟩ := hS; exact q1) (fun W hS => by obtain ⟨⟨hH, q1⟩, q2⟩ := hS; exact ⟨⟨hH.setRowAt (by simp; omega) (Nat.le_succ _) _, q1.setRow rfl⟩, q2.setRow (Nat.lt_succ_self _) _⟩) rfl (by kernel_rfl) (by rfl) rfl (by rfl) (by rfl) rfl (by kernel_rfl) (by simp [Value.oneCell']) ?_
          simp only [Act.put, List.setIfInBounds_toArray, List.set_cons_zero, List.set_cons_succ]
          refine takeW (i := 16) (v := ?_) (Stable.and (Stable.and (Stable.and (Stable.held _ _) (stable_blkN (w.heap.size + 1) 61 4)) (stable_fi (w.heap.size + 1 + 1) (.slice A7 rs.length c7) rs (.slice A8 ds.length c8) ds)) (stable_blkIs _ _ _)) rfl (by kernel_rfl) (by kernel_rfl) (by kernel_rfl) (fun _ _ _ h => h) ?_ ?_
          rotate_left
          · first | (refine Or.inl ⟨by rfl, fun W hS => detR_value (w' := W) ?_ (Below.refl _ _)⟩; obtain ⟨⟨⟨hH, q1⟩, q2⟩, hs⟩ := hS; obtain ⟨x0, x1, x2, x3, _⟩ := hH.1; go_simp; first | done | with_reducible rfl) | fail
          simp only [Act.put, List.setIfInBounds_toArray, List.set_cons_zero, List.set_cons_succ]
          refine doneW (by kernel_rfl) fun wH7 HG => ?_
          obtain ⟨⟨⟨hH, q1⟩, q2⟩, hs⟩ := HG
          have H7 := Lib.hid hH; clear hH
          have MH7_q1 := Lib.hid q1; clear q1
          have MH7_q2 := Lib.hid q2; clear q2
          have MH7_s := Lib.hid hs; clear hs
          try clear x0 x1 x2 x3
          have r0 := (cell_of_cells (k := 0) MH7_s.out).trans (rfl : _ = some (Value.slice A ns.length c))
          have r1 := (cell_of_cells (k := 1) MH7_s.out).trans (rfl : _ = some (Value.slice A2 ls.length c2))
          have r2 := (cell_of_cells (k := 2) MH7_s.out).trans (rfl : _ = some (Value.slice A7 rs.length c7))
          have r3 := (cell_of_cells (k := 3) MH7_s.out).trans (rfl : _ = some (Value.slice A8 ds.length c8))
          go_wp2_with fail
          refine bodyPost_ret (v := .tuple #[.agg #[.slice A ns.length c, .slice A2 ls.length c2, .slice A7 rs.length c7, .slice A8 ds.length c8], .bool false]) (by simp [results, Tryz.results43, go_sem, r0, r1, r2, r3]) rfl ⟨_, _, _, _, by first | (rw [HRES.out]; done) | (rw [HRES.out]; rfl), ?_, ?_, ?_, ?_, H7.out.below⟩
          · rw [HGN.out]; exact HN.out.step H7.out.below
          · rw [HGL2.out]; exact HL.out.step H7.out.below
          · rw [HWF.out]; exact MH7_q2.out.f.mono (by omega)
          · rw [HGA.out]; exact MH7_q2.out.a.mono (by omega)
    · obtain rfl := HLD.out
      obtain ⟨p, hp⟩ : ∃ p, decide (1 ≤ a) = p := ⟨_, rfl⟩
      obtain ⟨q, hq⟩ : ∃ q, decide (a ≤ 6) = q := ⟨_, rfl⟩
      replace HRES := Lib.hid (show res = (p && q) from by rw [HRES.out, hp, hq]; rfl)
      cases p
      · cases q
        · refine regionW (fun W => ((Held _ W [(w1.heap.size, 0, .slice A ns.length c), (w1.heap.size, 1, .slice A2 ls.length c2), (w1.heap.size, 2, .slice A7 rs.length c7), (w1.heap.size, 3, .slice A8 ds.length c8)]) ∧ BlkN (w.heap.size + 1) 61 4 W) ∧ FI (w.heap.size + 1 + 1) (.slice A7 rs.length c7) rs (.slice A8 ds.length c8) ds W) (by kernel_rfl) ⟨⟨H8.out.drew, HK9.out⟩, (FI9.out).step ((Below.refl _ _).drew)⟩ ?_
          refine takeW (i := 0) (v := ?_) (Stable.and (Stable.and (Stable.held _ _) (stable_blkN (w.heap.size + 1) 61 4)) (stable_fi (w.heap.size + 1 + 1) (.slice A7 rs.length c7) rs (.slice A8 ds.length c8) ds)) rfl (by kernel_rfl) (by kernel_rfl) (by kernel_rfl) (fun _ _ _ h => h) ?_ ?_
          rotate_left
          · first | (refine Or.inl ⟨by rfl, fun W hS => detR_value (w' := W) ?_ (Below.refl _ _)⟩; obtain ⟨⟨hH, q1⟩, q2⟩ := hS; obtain ⟨x0, x1, x2, x3, _⟩ := hH.1; go_simp; first | done | with_reducible rfl) | fail
          simp only [Act.put, List.setIfInBounds_toArray, List.set_cons_zero, List.set_cons_succ]
          refine takeW (i := 1) (v := ?_) (Stable.and (Stable.and (Stable.held _ _) (stable_blkN (w.heap.size + 1) 61 4)) (stable_fi (w.heap.size + 1 + 1) (.slice A7 rs.length c7) rs (.slice A8 ds.length c8) ds)) rfl (by kernel_rfl) (by kernel_rfl) (by kernel_rfl) (fun _ _ _ h => h) ?_ ?_
          rotate_left
          · first | (refine Or.inl ⟨by rfl, fun W hS => detR_value (w' := W) ?_ (Below.refl _ _)⟩; obtain ⟨⟨hH, q1⟩, q2⟩ := hS; obtain ⟨x0, x1, x2, x3, _⟩ := hH.1; go_simp; first | done | with_reducible rfl) | fail
          simp only [Act.put, List.setIfInBounds_toArray, List.set_cons_zero, List.set_cons_succ]
          refine takeW (i := 2) (v := ?_) (Stable.and (Stable.and (Stable.held _ _) (stable_blkN (w.heap.size + 1) 61 4)) (stable_fi (w.heap.size + 1 + 1) (.slice A7 rs.length c7) rs (.slice A8 ds.length c8) ds)) rfl (by kernel_rfl) (by kernel_rfl) (by kernel_rfl) (fun _ _ _ h => h) ?_ ?_
          rotate_left
          · first | (refine Or.inl ⟨by rfl, fun W hS => detR_value (w' := W) ?_ (Below.refl _ _)⟩; obtain ⟨⟨hH, q1⟩, q2⟩ := hS; obtain ⟨x0, x1, x2, x3, _⟩ := hH.1; go_simp; first | done | with_reducible rfl) | fail
          simp only [Act.put, List.setIfInBounds_toArray, List.set_cons_zero, List.set_cons_succ]
          refine takeW (i := 3) (v := ?_) (Stable.and (Stable.and (Stable.held _ _) (stable_blkN (w.heap.size + 1) 61 4)) (stable_fi (w.heap.size + 1 + 1) (.slice A7 rs.length c7) rs (.slice A8 ds.length c8) ds)) rfl (by kernel_rfl) (by kernel_rfl) (by kernel_rfl) (fun _ _ _ h => h) ?_ ?_
          rotate_left
          · first | (refine Or.inr ⟨by rfl, ?_⟩; with_reducible rfl) | (refine Or.inl ⟨by rfl, fun W hS => detR_value (w' := W) ?_ (Below.refl _ _)⟩; obtain ⟨⟨hH, q1⟩, q2⟩ := hS; obtain ⟨x0, x1, x2, x3, _⟩ := hH.1; go_simp; first | done | with_reducible rfl) | fail
          simp only [Act.put, List.setIfInBounds_toArray, List.set_cons_zero, List.set_cons_succ]
          refine takeW (i := 4) (v := ?_) (Stable.and (Stable.and (Stable.held _ _) (stable_blkN (w.heap.size + 1) 61 4)) (stable_fi (w.heap.size + 1 + 1) (.slice A7 rs.length c7) rs (.slice A8 ds.length c8) ds)) rfl (by kernel_rfl) (by kernel_rfl) (by kernel_rfl) (fun _ _ _ h => h) ?_ ?_
          rotate_left
          · first | (refine Or.inr ⟨by rfl, ?_⟩; with_reducible rfl) | (refine Or.inl ⟨by rfl, fun W hS => detR_value (w' := W) ?_ (Below.refl _ _)⟩; obtain ⟨⟨hH, q1⟩, q2⟩ := hS; obtain ⟨x0, x1, x2, x3, _⟩ := hH.1; go_simp; first | done | with_reducible rfl) | fail
          simp only [Act.put, List.setIfInBounds_toArray, List.set_cons_zero, List.set_cons_succ]
          refine takeW (i := 5) (v := ?_) (Stable.and (Stable.and (Stable.held _ _) (stable_blkN (w.heap.size + 1) 61 4)) (stable_fi (w.heap.size + 1 + 1) (.slice A7 rs.length c7) rs (.slice A8 ds.length c8) ds)) rfl (by kernel_rfl) (by kernel_rfl) (by kernel_rfl) (fun _ _ _ h => h) ?_ ?_
          rotate_left
          · first | (refine Or.inr ⟨by rfl, ?_⟩; with_reducible rfl) | (refine Or.inl ⟨by rfl, fun W hS => ?_⟩; obtain ⟨⟨hH, q1⟩, q2⟩ := hS; refine detR_call (w' := W) (f := ?_) (args := ?_) ?_ ?_; rotate_left 2; (go_simp; (refine ⟨?_, ?_⟩ <;> with_reducible rfl)); (first | (with_reducible refine (HT.out _ _ _ _ _ _ _ _ _ _ _ _ hH.below).mono ?_) | fail); (first | (rintro e wn ⟨rfl, hb⟩; refine ⟨?_, hb⟩; with_reducible rfl) | (rintro e wn ⟨rfl, rfl⟩; refine ⟨?_, Below.refl _ _⟩; with_reducible rfl) | fail)) | fail
          simp only [Act.put, List.setIfInBounds_toArray, List.set_cons_zero, List.set_cons_succ]
          refine takeW (i := 6) (v := ?_) (Stable.and (Stable.and (Stable.held _ _) (stable_blkN (w.heap.size + 1) 61 4)) (stable_fi (w.heap.size + 1 + 1) (.slice A7 rs.length c7) rs (.slice A8 ds.length c8) ds)) rfl (by kernel_rfl) (by kernel_rfl) (by kernel_rfl) (fun _ _ _ h => h) ?_ ?_
          rotate_left
          · first | (refine Or.inl ⟨by rfl, fun W hS => detR_value (w' := W) ?_ (Below.refl _ _)⟩; obtain ⟨⟨hH, q1⟩, q2⟩ := hS; obtain ⟨x0, x1, x2, x3, _⟩ := hH.1; go_simp; first | done | with_reducible rfl) | fail
          simp only [Act.put, List.setIfInBounds_toArray, List.set_cons_zero, List.set_cons_succ]
          refine takeW (i := 7) (v := ?_) (Stable.and (Stable.and (Stable.held _ _) (stable_blkN (w.heap.size + 1) 61 4)) (stable_fi (w.heap.size + 1 + 1) (.slice A7 rs.length c7) rs (.slice A8 ds.length c8) ds)) rfl (by kernel_rfl) (by kernel_rfl) (by kernel_rfl) (fun _ _ _ h => h) ?_ ?_
          rotate_left
          · first | (refine Or.inl ⟨by rfl, fun W hS => detR_value (w' := W) ?_ (Below.refl _ _)⟩; obtain ⟨⟨hH, q1⟩, q2⟩ := hS; obtain ⟨x0, x1, x2, x3, _⟩ := hH.1; go_simp; first | done | with_reducible rfl) | fail
          simp only [Act.put, List.setIfInBounds_toArray, List.set_cons_zero, List.set_cons_succ]
          refine takeW (i := 8) (v := ?_) (Stable.and (Stable.and (Stable.held _ _) (stable_blkN (w.heap.size + 1) 61 4)) (stable_fi (w.heap.size + 1 + 1) (.slice A7 rs.length c7) rs (.slice A8 ds.length c8) ds)) rfl (by kernel_rfl) (by kernel_rfl) (by kernel_rfl) (fun _ _ _ h => h) ?_ ?_
          rotate_left
          · first | (refine Or.inr ⟨by rfl, ?_⟩; with_reducible rfl) | (refine Or.inl ⟨by rfl, fun W hS => detR_value (w' := W) ?_ (Below.refl _ _)⟩; obtain ⟨⟨hH, q1⟩, q2⟩ := hS; obtain ⟨x0, x1, x2, x3, _⟩ := hH.1; go_simp; first | done | with_reducible rfl) | fail
          simp only [Act.put, List.setIfInBounds_toArray, List.set_cons_zero, List.set_cons_succ]
          refine takeW (i := 9) (v := ?_) (Stable.and (Stable.and (Stable.held _ _) (stable_blkN (w.heap.size + 1) 61 4)) (stable_fi (w.heap.size + 1 + 1) (.slice A7 rs.length c7) rs (.slice A8 ds.length c8) ds)) rfl (by kernel_rfl) (by kernel_rfl) (by kernel_rfl) (fun _ _ _ h => h) ?_ ?_
          rotate_left
          · first | (refine Or.inr ⟨by rfl, ?_⟩; with_reducible rfl) | (refine Or.inl ⟨by rfl, fun W hS => detR_value (w' := W) ?_ (Below.refl _ _)⟩; obtain ⟨⟨hH, q1⟩, q2⟩ := hS; obtain ⟨x0, x1, x2, x3, _⟩ := hH.1; go_simp; first | done | with_reducible rfl) | fail
          simp only [Act.put, List.setIfInBounds_toArray, List.set_cons_zero, List.set_cons_succ]
          refine takeW (i := 10) (v := ?_) (Stable.and (Stable.and (Stable.held _ _) (stable_blkN (w.heap.size + 1) 61 4)) (stable_fi (w.heap.size + 1 + 1) (.slice A7 rs.length c7) rs (.slice A8 ds.length c8) ds)) rfl (by kernel_rfl) (by kernel_rfl) (by kernel_rfl) (fun _ _ _ h => h) ?_ ?_
          rotate_left
          · first | (refine Or.inl ⟨by rfl, fun W hS => detR_value (w' := W) ?_ (Below.refl _ _)⟩; obtain ⟨⟨hH, q1⟩, q2⟩ := hS; obtain ⟨x0, x1, x2, x3, _⟩ := hH.1; go_simp; first | done | with_reducible rfl) | fail
          simp only [Act.put, List.setIfInBounds_toArray, List.set_cons_zero, List.set_cons_succ]
          refine takeW (i := 11) (v := ?_) (Stable.and (Stable.and (Stable.held _ _) (stable_blkN (w.heap.size + 1) 61 4)) (stable_fi (w.heap.size + 1 + 1) (.slice A7 rs.length c7) rs (.slice A8 ds.length c8) ds)) rfl (by kernel_rfl) (by kernel_rfl) (by kernel_rfl) (fun _ _ _ h => h) ?_ ?_
          rotate_left
          · first | (refine Or.inl ⟨by rfl, fun W hS => detR_value (w' := W) ?_ (Below.refl _ _)⟩; obtain ⟨⟨hH, q1⟩, q2⟩ := hS; obtain ⟨x0, x1, x2, x3, _⟩ := hH.1; go_simp; first | done | with_reducible rfl) | fail
          simp only [Act.put, List.setIfInBounds_toArray, List.set_cons_zero, List.set_cons_succ]
          refine takeW (i := 12) (v := ?_) (Stable.and (Stable.and (Stable.held _ _) (stable_blkN (w.heap.size + 1) 61 4)) (stable_fi (w.heap.size + 1 + 1) (.slice A7 rs.length c7) rs (.slice A8 ds.length c8) ds)) rfl (by kernel_rfl) (by kernel_rfl) (by kernel_rfl) (fun _ _ _ h => h) ?_ ?_
          rotate_left
          · first | (refine Or.inr ⟨by rfl, ?_⟩; with_reducible rfl) | (refine Or.inl ⟨by rfl, fun W hS => detR_value (w' := W) ?_ (Below.refl _ _)⟩; obtain ⟨⟨hH, q1⟩, q2⟩ := hS; obtain ⟨x0, x1, x2, x3, _⟩ := hH.1; go_simp; first | done | with_reducible rfl) | fail
          simp only [Act.put, List.setIfInBounds_toArray, List.set_cons_zero, List.set_cons_succ]
          refine takeW (i := 13) (v := ?_) (Stable.and (Stable.and (Stable.held _ _) (stable_blkN (w.heap.size + 1) 61 4)) (stable_fi (w.heap.size + 1 + 1) (.slice A7 rs.length c7) rs (.slice A8 ds.length c8) ds)) rfl (by kernel_rfl) (by kernel_rfl) (by kernel_rfl) (fun _ _ _ h => h) ?_ ?_
          rotate_left
          · first | (refine Or.inr ⟨by rfl, ?_⟩; with_reducible rfl) | (refine Or.inl ⟨by rfl, fun W hS => detR_value (w' := W) ?_ (Below.refl _ _)⟩; obtain ⟨⟨hH, q1⟩, q2⟩ := hS; obtain ⟨x0, x1, x2, x3, _⟩ := hH.1; go_simp; first | done | with_reducible rfl) | fail
          simp only [Act.put, List.setIfInBounds_toArray, List.set_cons_zero, List.set_cons_succ]
          refine takeW (i := 14) (v := ?_) (Stable.and (Stable.and (Stable.held _ _) (stable_blkN (w.heap.size + 1) 61 4)) (stable_fi (w.heap.size + 1 + 1) (.slice A7 rs.length c7) rs (.slice A8 ds.length c8) ds)) rfl (by kernel_rfl) (by kernel_rfl) (by kernel_rfl) (fun _ _ _ h => h) ?_ ?_
          rotate_left
          · first | (refine Or.inl ⟨by rfl, fun W hS => detR_value (w' := W) ?_ (Below.refl _ _)⟩; obtain ⟨⟨hH, q1⟩, q2⟩ := hS; obtain ⟨x0, x1, x2, x3, _⟩ := hH.1; go_simp; first | done | with_reducible rfl) | fail
          simp only [Act.put, List.setIfInBounds_toArray, List.set_cons_zero, List.set_cons_succ]
          refine storeK (i := 15) (b := w.heap.size + 1) #[.slice A ns.length c, .slice A2 ls.length c2, .slice A7 rs.length c7, .slice A8 ds.length c8] (Stable.and (Stable.and (Stable.held _ _) (stable_blkN (w.heap.size + 1) 61 4)) (stable_fi (w.heap.size + 1 + 1) (.slice A7 rs.length c7) rs (.slice A8 ds.length c8) ds)) (fun W hS => by obtain ⟨⟨hH, q1⟩, q2⟩ := hS; exact q1) (fun W hS => by obtain ⟨⟨hH, q1⟩, q2⟩ := hS; exact ⟨⟨hH.setRowAt (by simp; omega) (Nat.le_succ _) _, q1.setRow rfl⟩, q2.setRow (Nat.lt_succ_self _) _⟩) rfl (by kernel_rfl) (by rfl) rfl (by rfl) (by rfl) rfl (by kernel_rfl) (by simp [Value.oneCell']) ?_
          simp only [Act.put, List.setIfInBounds_toArray, List.set_cons_zero, List.set_cons_succ]
          refine takeW (i := 16) (v := ?_) (Stable.and (Stable.and (Stable.and (Stable.held _ _) (stable_blkN (w.heap.size + 1) 61 4)) (stable_fi (w.heap.size + 1 + 1) (.slice A7 rs.length c7) rs (.slice A8 ds.length c8) ds)) (stable_blkIs _ _ _)) rfl (by kernel_rfl) (by kernel_rfl) (by kernel_rfl) (fun _ _ _ h => h) ?_ ?_
          rotate_left
          · first | (refine Or.inl ⟨by rfl, fun W hS => detR_value (w' := W) ?_ (Below.refl _ _)⟩; obtain ⟨⟨⟨hH, q1⟩, q2⟩, hs⟩ := hS; obtain ⟨x0, x1, x2, x3, _⟩ := hH.1; go_simp; first | done | with_reducible rfl) | fail
          simp only [Act.put, List.setIfInBounds_toArray, List.set_cons_zero, List.set_cons_succ]
          refine doneW (by kernel_rfl) fun wH7 HG => ?_
          obtain ⟨⟨⟨hH, q1⟩, q2⟩, hs⟩ := HG
          have H7 := Lib.hid hH; clear hH
          have MH7_q1 := Lib.hid q1; clear q1
          have MH7_q2 := Lib.hid q2; clear q2
          have MH7_s := Lib.hid hs; clear hs
          try clear x0 x1 x2 x3
          have r0 := (cell_of_cells (k := 0) MH7_s.out).trans (rfl : _ = some (Value.slice A ns.length c))
          have r1 := (cell_of_cells (k := 1) MH7_s.out).trans (rfl : _ = some (Value.slice A2 ls.length c2))
          have r2 := (cell_of_cells (k := 2) MH7_s.out).trans (rfl : _ = some (Value.slice A7 rs.length c7))
          have r3 := (cell_of_cells (k := 3) MH7_s.out).trans (rfl : _ = some (Value.slice A8 ds.length c8))
          go_wp2_with fail
          refine bodyPost_ret (v := .tuple #[.agg #[.slice A ns.length c, .slice A2 ls.length c2, .slice A7 rs.length c7, .slice A8 ds.length c8], .bool false]) (by simp [results, Tryz.results43, go_sem, r0, r1, r2, r3]) rfl ⟨_, _, _, _, by first | (rw [HRES.out]; done) | (rw [HRES.out]; rfl), ?_, ?_, ?_, ?_, H7.out.below⟩
          · rw [HGN.out]; exact HN.out.step H7.out.below
          · rw [HGL2.out]; exact HL.out.step H7.out.below
          · rw [HWF.out]; exact MH7_q2.out.f.mono (by omega)
          · rw [HGA.out]; exact MH7_q2.out.a.mono (by omega)
        · refine regionW (fun W => ((Held _ W [(w1.heap.size, 0, .slice A ns.length c), (w1.heap.size, 1, .slice A2 ls.length c2), (w1.heap.size, 2, .slice A7 rs.length c7), (w1.heap.size, 3, .slice A8 ds.length c8)]) ∧ BlkN (w.heap.size + 1) 61 4 W) ∧ FI (w.heap.size + 1 + 1) (.slice A7 rs.length c7) rs (.slice A8 ds.length c8) ds W) (by kernel_rfl) ⟨⟨H8.out.drew, HK9.out⟩, (FI9.out).step ((Below.refl _ _).drew)⟩ ?_
          refine takeW (i := 0) (v := ?_) (Stable.and (Stable.and (Stable.held _ _) (stable_blkN (w.heap.size + 1) 61 4)) (stable_fi (w.heap.size + 1 + 1) (.slice A7 rs.length c7) rs (.slice A8 ds.length c8) ds)) rfl (by kernel_rfl) (by kernel_rfl) (by kernel_rfl) (fun _ _ _ h => h) ?_ ?_
          rotate_left
          · first | (refine Or.inl ⟨by rfl, fun W hS => detR_value (w' := W) ?_ (Below.refl _ _)⟩; obtain ⟨⟨hH, q1⟩, q2⟩ := hS; obtain ⟨x0, x1, x2, x3, _⟩ := hH.1; go_simp; first | done | with_reducible rfl) | fail
          simp only [Act.put, List.setIfInBounds_toArray, List.set_cons_zero, List.set_cons_succ]
          refine takeW (i := 1) (v := ?_) (Stable.and (Stable.and (Stable.held _ _) (stable_blkN (w.heap.size + 1) 61 4)) (stable_fi (w.heap.size + 1 + 1) (.slice A7 rs.length c7) rs (.slice A8 ds.length c8) ds)) rfl (by kernel_rfl) (by kernel_rfl) (by kernel_rfl) (fun _ _ _ h => h) ?_ ?_
          rotate_left
          · first | (refine Or.inl ⟨by rfl, fun W hS => detR_value (w' := W) ?_ (Below.refl _ _)⟩; obtain ⟨⟨hH, q1⟩, q2⟩ := hS; obtain ⟨x0, x1, x2, x3, _⟩ := hH.1; go_simp; first | done | with_reducible rfl) | fail
          simp only [Act.put, List.setIfInBounds_toArray, List.set_cons_zero, List.set_cons_succ]
          refine takeW (i := 2) (v := ?_) (Stable.and (Stable.and (Stable.held _ _) (stable_blkN (w.heap.size + 1) 61 4)) (stable_fi (w.heap.size + 1 + 1) (.slice A7 rs.length c7) rs (.slice A8 ds.length c8) ds)) rfl (by kernel_rfl) (by kernel_rfl) (by kernel_rfl) (fun _ _ _ h => h) ?_ ?_
          rotate_left
          · first | (refine Or.inl ⟨by rfl, fun W hS => detR_value (w' := W) ?_ (Below.refl _ _)⟩; obtain ⟨⟨hH, q1⟩, q2⟩ := hS; obtain ⟨x0, x1, x2, x3, _⟩ := hH.1; go_simp; first | done | with_reducible rfl) | fail
          simp only [Act.put, List.setIfInBounds_toArray, List.set_cons_zero, List.set_cons_succ]
          refine takeW (i := 3) (v := ?_) (Stable.and (Stable.and (Stable.held _ _) (stable_blkN (w.heap.size + 1) 61 4)) (stable_fi (w.heap.size + 1 + 1) (.slice A7 rs.length c7) rs (.slice A8 ds.length c8) ds)) rfl (by kernel_rfl) (by kernel_rfl) (by kernel_rfl) (fun _ _ _ h => h) ?_ ?_
          rotate_left
          · first | (refine Or.inr ⟨by rfl, ?_⟩; with_reducible rfl) | (refine Or.inl ⟨by rfl, fun W hS => detR_value (w' := W) ?_ (Below.refl _ _)⟩; obtain ⟨⟨hH, q1⟩, q2⟩ := hS; obtain ⟨x0, x1, x2, x3, _⟩ := hH.1; go_simp; first | done | with_reducible rfl) | fail
          simp only [Act.put, List.setIfInBounds_toArray, List.set_cons_zero, List.set_cons_succ]
          refine takeW (i := 4) (v := ?_) (Stable.and (Stable.and (Stable.held _ _) (stable_blkN (w.heap.size + 1) 61 4)) (stable_fi (w.heap.size + 1 + 1) (.slice A7 rs.length c7) rs (.slice A8 ds.length c8) ds)) rfl (by kernel_rfl) (by kernel_rfl) (by kernel_rfl) (fun _ _ _ h => h) ?_ ?_
          rotate_left
          · first | (refine Or.inr ⟨by rfl, ?_⟩; with_reducible rfl) | (refine Or.inl ⟨by rfl, fun W hS => detR_value (w' := W) ?_ (Below.refl _ _)⟩; obtain ⟨⟨hH, q1⟩, q2⟩ := hS; obtain ⟨x0, x1, x2, x3, _⟩ := hH.1; go_simp; first | done | with_reducible rfl) | fail
          simp only [Act.put, List.setIfInBounds_toArray, List.set_cons_zero, List.set_cons_succ]
          refine takeW (i := 5) (v := ?_) (Stable.and (Stable.and (Stable.held _ _) (stable_blkN (w.heap.size + 1) 61 4)) (stable_fi (w.heap.size + 1 + 1) (.slice A7 rs.length c7) rs (.slice A8 ds.length c8) ds)) rfl (by kernel_rfl) (by kernel_rfl) (by kernel_rfl) (fun _ _ _ h => h) ?_ ?_
          rotate_left
          · first | (refine Or.inr ⟨by rfl, ?_⟩; with_reducible rfl) | (refine Or.inl ⟨by rfl, fun W hS => ?_⟩; obtain ⟨⟨hH, q1⟩, q2⟩ := hS; refine detR_call (w' := W) (f := ?_) (args := ?_) ?_ ?_; rotate_left 2; (go_simp; (refine ⟨?_, ?_⟩ <;> with_reducible rfl)); (first | (with_reducible refine (HT.out _ _ _ _ _ _ _ _ _ _ _ _ hH.below).mono ?_) | fail); (first | (rintro e wn ⟨rfl, hb⟩; refine ⟨?_, hb⟩; with_reducible rfl) | (rintro e wn ⟨rfl, rfl⟩; refine ⟨?_, Below.refl _ _⟩; with_reducible rfl) | fail)) | fail
          simp only [Act.put, List.setIfInBounds_toArray, List.set_cons_zero, List.set_cons_succ]
          refine takeW (i := 6) (v := ?_) (Stable.and (Stable.and (Stable.held _ _) (stable_blkN (w.heap.size + 1) 61 4)) (stable_fi (w.heap.size + 1 + 1) (.slice A7 rs.length c7) rs (.slice A8 ds.length c8) ds)) rfl (by kernel_rfl) (by kernel_rfl) (by kernel_rfl) (fun _ _ _ h => h) ?_ ?_
          rotate_left
          · first | (refine Or.inl ⟨by rfl, fun W hS => detR_value (w' := W) ?_ (Below.refl _ _)⟩; obtain ⟨⟨hH, q1⟩, q2⟩ := hS; obtain ⟨x0, x1, x2, x3, _⟩ := hH.1; go_simp; first | done | with_reducible rfl) | fail
          simp only [Act.put, List.setIfInBounds_toArray, List.set_cons_zero, List.set_cons_succ]
          refine takeW (i := 7) (v := ?_) (Stable.and (Stable.and (Stable.held _ _) (stable_blkN (w.heap.size + 1) 61 4)) (stable_fi (w.heap.size + 1 + 1) (.slice A7 rs.length c7) rs (.slice A8 ds.length c8) ds)) rfl (by kernel_rfl) (by kernel_rfl) (by kernel_rfl) (fun _ _ _ h => h) ?_ ?_
          rotate_left
          · first | (refine Or.inl ⟨by rfl, fun W hS => detR_value (w' := W) ?_ (Below.refl _ _)⟩; obtain ⟨⟨hH, q1⟩, q2⟩ := hS; obtain ⟨x0, x1, x2, x3, _⟩ := hH.1; go_simp; first | done | with_reducible rfl) | fail
          simp only [Act.put, List.setIfInBounds_toArray, List.set_cons_zero, List.set_cons_succ]
          refine takeW (i := 8) (v := ?_) (Stable.and (Stable.and (Stable.held _ _) (stable_blkN (w.heap.size + 1) 61 4)) (stable_fi (w.heap.size + 1 + 1) (.slice A7 rs.length c7) rs (.slice A8 ds.length c8) ds)) rfl (by kernel_rfl) (by kernel_rfl) (by kernel_rfl) (fun _ _ _ h => h) ?_ ?_
          rotate_left
          · first | (refine Or.inr ⟨by rfl, ?_⟩; with_reducible rfl) | (refine Or.inl ⟨by rfl, fun W hS => detR_value (w' := W) ?_ (Below.refl _ _)⟩; obtain ⟨⟨hH, q1⟩, q2⟩ := hS; obtain ⟨x0, x1, x2, x3, _⟩ := hH.1; go_simp; first | done | with_reducible rfl) | fail
          simp only [Act.put, List.setIfInBounds_toArray, List.set_cons_zero, List.set_cons_succ]
          refine takeW (i := 9) (v := ?_) (Stable.and (Stable.and (Stable.held _ _) (stable_blkN (w.heap.size + 1) 61 4)) (stable_fi (w.heap.size + 1 + 1) (.slice A7 rs.length c7) rs (.slice A8 ds.length c8) ds)) rfl (by kernel_rfl) (by kernel_rfl) (by kernel_rfl) (fun _ _ _ h => h) ?_ ?_
          rotate_left
          · first | (refine Or.inr ⟨by rfl, ?_⟩; with_reducible rfl) | (refine Or.inl ⟨by rfl, fun W hS => detR_value (w' := W) ?_ (Below.refl _ _)⟩; obtain ⟨⟨hH, q1⟩, q2⟩ := hS; obtain ⟨x0, x1, x2, x3, _⟩ := hH.1; go_simp; first | done | with_reducible rfl) | fail
          simp only [Act.put, List.setIfInBounds_toArray, List.set_cons_zero, List.set_cons_succ]
          refine takeW (i := 10) (v := ?_) (Stable.and (Stable.and (Stable.held _ _) (stable_blkN (w.heap.size + 1) 61 4)) (stable_fi (w.heap.size + 1 + 1) (.slice A7 rs.length c7) rs (.slice A8 ds.length c8) ds)) rfl (by kernel_rfl) (by kernel_rfl) (by kernel_rfl) (fun _ _ _ h => h) ?_ ?_
          rotate_left
          · first | (refine Or.inl ⟨by rfl, fun W hS => detR_value (w' := W) ?_ (Below.refl _ _)⟩; obtain ⟨⟨hH, q1⟩, q2⟩ := hS; obtain ⟨x0, x1, x2, x3, _⟩ := hH.1; go_simp; first | done | with_reducible rfl) | fail
          simp only [Act.put, List.setIfInBounds_toArray, List.set_cons_zero, List.set_cons_succ]
          refine takeW (i := 11) (v := ?_) (Stable.and (Stable.and (Stable.held _ _) (stable_blkN (w.heap.size + 1) 61 4)) (stable_fi (w.heap.size + 1 + 1) (.slice A7 rs.length c7) rs (.slice A8 ds.length c8) ds)) rfl (by kernel_rfl) (by kernel_rfl) (by kernel_rfl) (fun _ _ _ h => h) ?_ ?_
          rotate_left
          · first | (refine Or.inl ⟨by rfl, fun W hS => detR_value (w' := W) ?_ (Below.refl _ _)⟩; obtain ⟨⟨hH, q1⟩, q2⟩ := hS; obtain ⟨x0, x1, x2, x3, _⟩ := hH.1; go_simp; first | done | with_reducible rfl) | fail
          simp only [Act.put, List.setIfInBounds_toArray, List.set_cons_zero, List.set_cons_succ]
          refine takeW (i := 12) (v := ?_) (Stable.and (Stable.and (Stable.held _ _) (stable_blkN (w.heap.size + 1) 61 4)) (stable_fi (w.heap.size + 1 + 1) (.slice A7 rs.length c7) rs (.slice A8 ds.length c8) ds)) rfl (by kernel_rfl) (by kernel_rfl) (by kernel_rfl) (fun _ _ _ h => h) ?_ ?_
          rotate_left
          · first | (refine Or.inr ⟨by rfl, ?_⟩; with_reducible rfl) | (refine Or.inl ⟨by rfl, fun W hS => detR_value (w' := W) ?_ (Below.refl _ _)⟩; obtain ⟨⟨hH, q1⟩, q2⟩ := hS; obtain ⟨x0, x1, x2, x3, _⟩ := hH.1; go_simp; first | done | with_reducible rfl) | fail
          simp only [Act.put, List.setIfInBounds_toArray, List.set_cons_zero, List.set_cons_succ]
          refine takeW (i := 13) (v := ?_) (Stable.and (Stable.and (Stable.held _ _) (stable_blkN (w.heap.size + 1) 61 4)) (stable_fi (w.heap.size + 1 + 1) (.slice A7 rs.length c7) rs (.slice A8 ds.length c8) ds)) rfl (by kernel_rfl) (by kernel_rfl) (by kernel_rfl) (fun _ _ _ h => h) ?_ ?_
          rotate_left
          · first | (refine Or.inr ⟨by rfl, ?_⟩; with_reducible rfl) | (refine Or.inl ⟨by rfl, fun W hS => detR_value (w' := W) ?_ (Below.refl _ _)⟩; obtain ⟨⟨hH, q1⟩, q2⟩ := hS; obtain ⟨x0, x1, x2, x3, _⟩ := hH.1; go_simp; first | done | with_reducible rfl) | fail
          simp only [Act.put, List.setIfInBounds_toArray, List.set_cons_zero, List.set_cons_succ]
          refine takeW (i := 14) (v := ?_) (Stable.and (Stable.and (Stable.held _ _) (stable_blkN (w.heap.size + 1) 61 4)) (stable_fi (w.heap.size + 1 + 1) (.slice A7 rs.length c7) rs (.slice A8 ds.length c8) ds)) rfl (by kernel_rfl) (by kernel_rfl) (by kernel_rfl) (fun _ _ _ h => h) ?_ ?_
          rotate_left
          · first | (refine Or.inl ⟨by rfl, fun W hS => detR_value (w' := W) ?_ (Below.refl _ _)⟩; obtain ⟨⟨hH, q1⟩, q2⟩ := hS; obtain ⟨x0, x1, x2, x3, _⟩ := hH.1; go_simp; first | done | with_reducible rfl) | fail
          simp only [Act.put, List.setIfInBounds_toArray, List.set_cons_zero, List.set_cons_succ]
          refine storeK (i := 15) (b := w.heap.size + 1) #[.slice A ns.length c, .slice A2 ls.length c2, .slice A7 rs.length c7, .slice A8 ds.length c8] (Stable.and (Stable.and (Stable.held _ _) (stable_blkN (w.heap.size + 1) 61 4)) (stable_fi (w.heap.size + 1 + 1) (.slice A7 rs.length c7) rs (.slice A8 ds.length c8) ds)) (fun W hS => by obtain ⟨⟨hH, q1⟩, q2⟩ := hS; exact q1) (fun W hS => by obtain ⟨⟨hH, q1⟩, q2⟩ := hS; exact ⟨⟨hH.setRowAt (by simp; omega) (Nat.le_succ _) _, q1.setRow rfl⟩, q2.setRow (Nat.lt_succ_self _) _⟩) rfl (by kernel_rfl) (by rfl) rfl (by rfl) (by rfl) rfl (by kernel_rfl) (by simp [Value.oneCell']) ?_
          simp only [Act.put, List.setIfInBounds_toArray, List.set_cons_zero, List.set_cons_succ]
          refine takeW (i := 16) (v := ?_) (Stable.and (Stable.and (Stable.and (Stable.held _ _) (stable_blkN (w.heap.size + 1) 61 4)) (stable_fi (w.heap.size + 1 + 1) (.slice A7 rs.length c7) rs (.slice A8 ds.length c8) ds)) (stable_blkIs _ _ _)) rfl (by kernel_rfl) (by kernel_rfl) (by kernel_rfl) (fun _ _ _ h => h) ?_ ?_
          rotate_left
          · first | (refine Or.inl ⟨by rfl, fun W hS => detR_value (w' := W) ?_ (Below.refl _ _)⟩; obtain ⟨⟨⟨hH, q1⟩, q2⟩, hs⟩ := hS; obtain ⟨x0, x1, x2, x3, _⟩ := hH.1; go_simp; first | done | with_reducible rfl) | fail
          simp only [Act.put, List.setIfInBounds_toArray, List.set_cons_zero, List.set_cons_succ]
          refine doneW (by kernel_rfl) fun wH7 HG => ?_
          obtain ⟨⟨⟨hH, q1⟩, q2⟩, hs⟩ := HG
          have H7 := Lib.hid hH; clear hH
          have MH7_q1 := Lib.hid q1; clear q1
          have MH7_q2 := Lib.hid q2; clear q2
          have MH7_s := Lib.hid hs; clear hs
          try clear x0 x1 x2 x3
          have r0 := (cell_of_cells (k := 0) MH7_s.out).trans (rfl : _ = some (Value.slice A ns.length c))
          have r1 := (cell_of_cells (k := 1) MH7_s.out).trans (rfl : _ = some (Value.slice A2 ls.length c2))
          have r2 := (cell_of_cells (k := 2) MH7_s.out).trans (rfl : _ = some (Value.slice A7 rs.length c7))
          have r3 := (cell_of_cells (k := 3) MH7_s.out).trans (rfl : _ = some (Value.slice A8 ds.length c8))
          go_wp2_with fail
          refine bodyPost_ret (v := .tuple #[.agg #[.slice A ns.length c, .slice A2 ls.length c2, .slice A7 rs.length c7, .slice A8 ds.length c8], .bool false]) (by simp [results, Tryz.results43, go_sem, r0, r1, r2, r3]) rfl ⟨_, _, _, _, by first | (rw [HRES.out]; done) | (rw [HRES.out]; rfl), ?_, ?_, ?_, ?_, H7.out.below⟩
          · rw [HGN.out]; exact HN.out.step H7.out.below
          · rw [HGL2.out]; exact HL.out.step H7.out.below
          · rw [HWF.out]; exact MH7_q2.out.f.mono (by omega)
          · rw [HGA.out]; exact MH7_q2.out.a.mono (by omega)
      · cases q
        · refine regionW (fun W => ((Held _ W [(w1.heap.size, 0, .slice A ns.length c), (w1.heap.size, 1, .slice A2 ls.length c2), (w1.heap.size, 2, .slice A7 rs.length c7), (w1.heap.size, 3, .slice A8 ds.length c8)]) ∧ BlkN (w.heap.size + 1) 61 4 W) ∧ FI (w.heap.size + 1 + 1) (.slice A7 rs.length c7) rs (.slice A8 ds.length c8) ds W) (by kernel_rfl) ⟨⟨H8.out.drew, HK9.out⟩, (FI9.out).step ((Below.refl _ _).drew)⟩ ?_
          refine takeW (i := 0) (v := ?_) (Stable.and (Stable.and (Stable.held _ _) (stable_blkN (w.heap.size + 1) 61 4)) (stable_fi (w.heap.size + 1 + 1) (.slice A7 rs.length c7) rs (.slice A8 ds.length c8) ds)) rfl (by kernel_rfl) (by kernel_rfl) (by kernel_rfl) (fun _ _ _ h => h) ?_ ?_
          rotate_left
          · first | (refine Or.inl ⟨by rfl, fun W hS => detR_value (w' := W) ?_ (Below.refl _ _)⟩; obtain ⟨⟨hH, q1⟩, q2⟩ := hS; obtain ⟨x0, x1, x2, x3, _⟩ := hH.1; go_simp; first | done | with_reducible rfl) | fail
          simp only [Act.put, List.setIfInBounds_toArray, List.set_cons_zero, List.set_cons_succ]
          refine takeW (i := 1) (v := ?_) (Stable.and (Stable.and (Stable.held _ _) (stable_blkN (w.heap.size + 1) 61 4)) (stable_fi (w.heap.size + 1 + 1) (.slice A7 rs.length c7) rs (.slice A8 ds.length c8) ds)) rfl (by kernel_rfl) (by kernel_rfl) (by kernel_rfl) (fun _ _ _ h => h) ?_ ?_
          rotate_left
          · first | (refine Or.inl ⟨by rfl, fun W hS => detR_value (w' := W) ?_ (Below.refl _ _)⟩; obtain ⟨⟨hH, q1⟩, q2⟩ := hS; obtain ⟨x0, x1, x2, x3, _⟩ := hH.1; go_simp; first | done | with_reducible rfl) | fail
          simp only [Act.put, List.setIfInBounds_toArray, List.set_cons_zero, List.set_cons_succ]
          refine takeW (i := 2) (v := ?_) (Stable.and (Stable.and (Stable.held _ _) (stable_blkN (w.heap.size + 1) 61 4)) (stable_fi (w.heap.size + 1 + 1) (.slice A7 rs.length c7) rs (.slice A8 ds.length c8) ds)) rfl (by kernel_rfl) (by kernel_rfl) (by kernel_rfl) (fun _ _ _ h => h) ?_ ?_
          rotate_left
          · first | (refine Or.inl ⟨by rfl, fun W hS => detR_value (w' := W) ?_ (Below.refl _ _)⟩; obtain ⟨⟨hH, q1⟩, q2⟩ := hS; obtain ⟨x0, x1, x2, x3, _⟩ := hH.1; go_simp; first | done | with_reducible rfl) | fail
          simp only [Act.put, List.setIfInBounds_toArray, List.set_cons_zero, List.set_cons_succ]
          refine takeW (i := 3) (v := ?_) (Stable.and (Stable.and (Stable.held _ _) (stable_blkN (w.heap.size + 1) 61 4)) (stable_fi (w.heap.size + 1 + 1) (.slice A7 rs.length c7) rs (.slice A8 ds.length c8) ds)) rfl (by kernel_rfl) (by kernel_rfl) (by kernel_rfl) (fun _ _ _ h => h) ?_ ?_
          rotate_left
          · first | (refine Or.inr ⟨by rfl, ?_⟩; with_reducible rfl) | (refine Or.inl ⟨by rfl, fun W hS => detR_value (w' := W) ?_ (Below.refl _ _)⟩; obtain ⟨⟨hH, q1⟩, q2⟩ := hS; obtain ⟨x0, x1, x2, x3, _⟩ := hH.1; go_simp; first | done | with_reducible rfl) | fail
          simp only [Act.put, List.setIfInBounds_toArray, List.set_cons_zero, List.set_cons_succ]
          refine takeW (i := 4) (v := ?_) (Stable.and (Stable.and (Stable.held _ _) (stable_blkN (w.heap.size + 1) 61 4)) (stable_fi (w.heap.size + 1 + 1) (.slice A7 rs.length c7) rs (.slice A8 ds.length c8) ds)) rfl (by kernel_rfl) (by kernel_rfl) (by kernel_rfl) (fun _ _ _ h => h) ?_ ?_
          rotate_left
          · first | (refine Or.inr ⟨by rfl, ?_⟩; with_reducible rfl) | (refine Or.inl ⟨by rfl, fun W hS => detR_value (w' := W) ?_ (Below.refl _ _)⟩; obtain ⟨⟨hH, q1⟩, q2⟩ := hS; obtain ⟨x0, x1, x2, x3, _⟩ := hH.1; go_simp; first | done | with_reducible rfl) | fail
          simp only [Act.put, List.setIfInBounds_toArray, List.set_cons_zero, List.set_cons_succ]
          refine takeW (i := 5) (v := ?_) (Stable.and (Stable.and (Stable.held _ _) (stable_blkN (w.heap.size + 1) 61 4)) (stable_fi (w.heap.size + 1 + 1) (.slice A7 rs.length c7) rs (.slice A8 ds.length c8) ds)) rfl (by kernel_rfl) (by kernel_rfl) (by kernel_rfl) (fun _ _ _ h => h) ?_ ?_
          rotate_left
          · first | (refine Or.inr ⟨by rfl, ?_⟩; with_reducible rfl) | (refine Or.inl ⟨by rfl, fun W hS => ?_⟩; obtain ⟨⟨hH, q1⟩, q2⟩ := hS; refine detR_call (w' := W) (f := ?_) (args := ?_) ?_ ?_; rotate_left 2; (go_simp; (refine ⟨?_, ?_⟩ <;> with_reducible rfl)); (first | (with_reducible refine (HT.out _ _ _ _ _ _ _ _ _ _ _ _ hH.below).mono ?_) | fail); (first | (rintro e wn ⟨rfl, hb⟩; refine ⟨?_, hb⟩; with_reducible rfl) | (rintro e wn ⟨rfl, rfl⟩; refine ⟨?_, Below.refl _ _⟩; with_reducible rfl) | fail)) | fail
          simp only [Act.put, List.setIfInBounds_toArray, List.set_cons_zero, List.set_cons_succ]
          refine takeW (i := 6) (v := ?_) (Stable.and (Stable.and (Stable.held _ _) (stable_blkN (w.heap.size + 1) 61 4)) (stable_fi (w.heap.size + 1 + 1) (.slice A7 rs.length c7) rs (.slice A8 ds.length c8) ds)) rfl (by kernel_rfl) (by kernel_rfl) (by kernel_rfl) (fun _ _ _ h => h) ?_ ?_
          rotate_left
          · first | (refine Or.inl ⟨by rfl, fun W hS => detR_value (w' := W) ?_ (Below.refl _ _)⟩; obtain ⟨⟨hH, q1⟩, q2⟩ := hS; obtain ⟨x0, x1, x2, x3, _⟩ := hH.1; go_simp; first | done | with_reducible rfl) | fail
          simp only [Act.put, List.setIfInBounds_toArray, List.set_cons_zero, List.set_cons_succ]
          refine takeW (i := 7) (v := ?_) (Stable.and (Stable.and (Stable.held _ _) (stable_blkN (w.heap.size + 1) 61 4)) (stable_fi (w.heap.size + 1 + 1) (.slice A7 rs.length c7) rs (.slice A8 ds.length c8) ds)) rfl (by kernel_rfl) (by kernel_rfl) (by kernel_rfl) (fun _ _ _ h => h) ?_ ?_
          rotate_left
          · first | (refine Or.inl ⟨by rfl, fun W hS => detR_value (w' := W) ?_ (Below.refl _ _)⟩; obtain ⟨⟨hH, q1⟩, q2⟩ := hS; obtain ⟨x0, x1, x2, x3, _⟩ := hH.1; go_simp; first | done | with_reducible rfl) | fail
          simp only [Act.put, List.setIfInBounds_toArray, List.set_cons_zero, List.set_cons_succ]
          refine takeW (i := 8) (v := ?_) (Stable.and (Stable.and (Stable.held _ _) (stable_blkN (w.heap.size + 1) 61 4)) (stable_fi (w.heap.size + 1 + 1) (.slice A7 rs.length c7) rs (.slice A8 ds.length c8) ds)) rfl (by kernel_rfl) (by kernel_rfl) (by kernel_rfl) (fun _ _ _ h => h) ?_ ?_
          rotate_left
          · first | (refine Or.inr ⟨by rfl, ?_⟩; with_reducible rfl) | (refine Or.inl ⟨by rfl, fun W hS => detR_value (w' := W) ?_ (Below.refl _ _)⟩; obtain ⟨⟨hH, q1⟩, q2⟩ := hS; obtain ⟨x0, x1, x2, x3, _⟩ := hH.1; go_simp; first | done | with_reducible rfl) | fail
          simp only [Act.put, List.setIfInBounds_toArray, List.set_cons_zero, List.set_cons_succ]
          refine takeW (i := 9) (v := ?_) (Stable.and (Stable.and (Stable.held _ _) (stable_blkN (w.heap.size + 1) 61 4)) (stable_fi (w.heap.size + 1 + 1) (.slice A7 rs.length c7) rs (.slice A8 ds.length c8) ds)) rfl (by kernel_rfl) (by kernel_rfl) (by kernel_rfl) (fun _ _ _ h => h) ?_ ?_
          rotate_left
          · first | (refine Or.inr ⟨by rfl, ?_⟩; with_reducible rfl) | (refine Or.inl ⟨by rfl, fun W hS => detR_value (w' := W) ?_ (Below.refl _ _)⟩; obtain ⟨⟨hH, q1⟩, q2⟩ := hS; obtain ⟨x0, x1, x2, x3, _⟩ := hH.1; go_simp; first | done | with_reducible rfl) | fail
          simp only [Act.put, List.setIfInBounds_toArray, List.set_cons_zero, List.set_cons_succ]
          refine takeW (i := 10) (v := ?_) (Stable.and (Stable.and (Stable.held _ _) (stable_blkN (w.heap.size + 1) 61 4)) (stable_fi (w.heap.size + 1 + 1) (.slice A7 rs.length c7) rs (.slice A8 ds.length c8) ds)) rfl (by kernel_rfl) (by kernel_rfl) (by kernel_rfl) (fun _ _ _ h => h) ?_ ?_
          rotate_left
          · first | (refine Or.inl ⟨by rfl, fun W hS => detR_value (w' := W) ?_ (Below.refl _ _)⟩; obtain ⟨⟨hH, q1⟩, q2⟩ := hS; obtain ⟨x0, x1, x2, x3, _⟩ := hH.1; go_simp; first | done | with_reducible rfl) | fail
          simp only [Act.put, List.setIfInBounds_toArray, List.set_cons_zero, List.set_cons_succ]
          refine takeW (i := 11) (v := ?_) (Stable.and (Stable.and (Stable.held _ _) (stable_blkN (w.heap.size + 1) 61 4)) (stable_fi (w.heap.size + 1 + 1) (.slice A7 rs.length c7) rs (.slice A8 ds.length c8) ds)) rfl (by kernel_rfl) (by kernel_rfl) (by kernel_rfl) (fun _ _ _ h => h) ?_ ?_
          rotate_left
          · first | (refine Or.inl ⟨by rfl, fun W hS => detR_value (w' := W) ?_ (Below.refl _ _)⟩; obtain ⟨⟨hH, q1⟩, q2⟩ := hS; obtain ⟨x0, x1, x2, x3, _⟩ := hH.1; go_simp; first | done | with_reducible rfl) | fail
          simp only [Act.put, List.setIfInBounds_toArray, List.set_cons_zero, List.set_cons_succ]
          refine takeW (i := 12) (v := ?_) (Stable.and (Stable.and (Stable.held _ _) (stable_blkN (w.heap.size + 1) 61 4)) (stable_fi (w.heap.size + 1 + 1) (.slice A7 rs.length c7) rs (.slice A8 ds.length c8) ds)) rfl (by kernel_rfl) (by kernel_rfl) (by kernel_rfl) (fun _ _ _ h => h) ?_ ?_
          rotate_left
          · first | (refine Or.inr ⟨by rfl, ?_⟩; with_reducible rfl) | (refine Or.inl ⟨by rfl, fun W hS => detR_value (w' := W) ?_ (Below.refl _ _)⟩; obtain ⟨⟨hH, q1⟩, q2⟩ := hS; obtain ⟨x0, x1, x2, x3, _⟩ := hH.1; go_simp; first | done | with_reducible rfl) | fail
          simp only [Act.put, List.setIfInBounds_toArray, List.set_cons_zero, List.set_cons_succ]
          refine takeW (i := 13) (v := ?_) (Stable.and (Stable.and (Stable.held _ _) (stable_blkN (w.heap.size + 1) 61 4)) (stable_fi (w.heap.size + 1 + 1) (.slice A7 rs.length c7) rs (.slice A8 ds.length c8) ds)) rfl (by kernel_rfl) (by kernel_rfl) (by kernel_rfl) (fun _ _ _ h => h) ?_ ?_
          rotate_left
          · first | (refine Or.inr ⟨by rfl, ?_⟩; with_reducible rfl) | (refine Or.inl ⟨by rfl, fun W hS => detR_value (w' := W) ?_ (Below.refl _ _)⟩; obtain ⟨⟨hH, q1⟩, q2⟩ := hS; obtain ⟨x0, x1, x2, x3, _⟩ := hH.1; go_simp; first | done | with_reducible rfl) | fail
          simp only [Act.put, List.setIfInBounds_toArray, List.set_cons_zero, List.set_cons_succ]
          refine takeW (i := 14) (v := ?_) (Stable.and (Stable.and (Stable.held _ _) (stable_blkN (w.heap.size + 1) 61 4)) (stable_fi (w.heap.size + 1 + 1) (.slice A7 rs.length c7) rs (.slice A8 ds.length c8) ds)) rfl (by kernel_rfl) (by kernel_rfl) (by kernel_rfl) (fun _ _ _ h => h) ?_ ?_
          rotate_left
          · first | (refine Or.inl ⟨by rfl, fun W hS => detR_value (w' := W) ?_ (Below.refl _ _)⟩; obtain ⟨⟨hH, q1⟩, q2⟩ := hS; obtain ⟨x0, x1, x2, x3, _⟩ := hH.1; go_simp; first | done | with_reducible rfl) | fail
          simp only [Act.put, List.setIfInBounds_toArray, List.set_cons_zero, List.set_cons_succ]
          refine storeK (i := 15) (b := w.heap.size + 1) #[.slice A ns.length c, .slice A2 ls.length c2, .slice A7 rs.length c7, .slice A8 ds.length c8] (Stable.and (Stable.and (Stable.held _ _) (stable_blkN (w.heap.size + 1) 61 4)) (stable_fi (w.heap.size + 1 + 1) (.slice A7 rs.length c7) rs (.slice A8 ds.length c8) ds)) (fun W hS => by obtain ⟨⟨hH, q1⟩, q2⟩ := hS; exact q1) (fun W hS => by obtain ⟨⟨hH, q1⟩, q2⟩ := hS; exact ⟨⟨hH.setRowAt (by simp; omega) (Nat.le_succ _) _, q1.setRow rfl⟩, q2.setRow (Nat.lt_succ_self _) _⟩) rfl (by kernel_rfl) (by rfl) rfl (by rfl) (by rfl) rfl (by kernel_rfl) (by simp [Value.oneCell']) ?_
          simp only [Act.put, List.setIfInBounds_toArray, List.set_cons_zero, List.set_cons_succ]
          refine takeW (i := 16) (v := ?_) (Stable.and (Stable.and (Stable.and (Stable.held _ _) (stable_blkN (w.heap.size + 1) 61 4)) (stable_fi (w.heap.size + 1 + 1) (.slice A7 rs.length c7) rs (.slice A8 ds.length c8) ds)) (stable_blkIs _ _ _)) rfl (by kernel_rfl) (by kernel_rfl) (by kernel_rfl) (fun _ _ _ h => h) ?_ ?_
          rotate_left
          · first | (refine Or.inl ⟨by rfl, fun W hS => detR_value (w' := W) ?_ (Below.refl _ _)⟩; obtain ⟨⟨⟨hH, q1⟩, q2⟩, hs⟩ := hS; obtain ⟨x0, x1, x2, x3, _⟩ := hH.1; go_simp; first | done | with_reducible rfl) | fail
          simp only [Act.put, List.setIfInBounds_toArray, List.set_cons_zero, List.set_cons_succ]
          refine doneW (by kernel_rfl) fun wH7 HG => ?_
          obtain ⟨⟨⟨hH, q1⟩, q2⟩, hs⟩ := HG
          have H7 := Lib.hid hH; clear hH
          have MH7_q1 := Lib.hid q1; clear q1
          have MH7_q2 := Lib.hid q2; clear q2
          have MH7_s := Lib.hid hs; clear hs
          try clear x0 x1 x2 x3
          have r0 := (cell_of_cells (k := 0) MH7_s.out).trans (rfl : _ = some (Value.slice A ns.length c))
          have r1 := (cell_of_cells (k := 1) MH7_s.out).trans (rfl : _ = some (Value.slice A2 ls.length c2))
          have r2 := (cell_of_cells (k := 2) MH7_s.out).trans (rfl : _ = some (Value.slice A7 rs.length c7))
          have r3 := (cell_of_cells (k := 3) MH7_s.out).trans (rfl : _ = some (Value.slice A8 ds.length c8))
          go_wp2_with fail
          refine bodyPost_ret (v := .tuple #[.agg #[.slice A ns.length c, .slice A2 ls.length c2, .slice A7 rs.length c7, .slice A8 ds.length c8], .bool false]) (by simp [results, Tryz.results43, go_sem, r0, r1, r2, r3]) rfl ⟨_, _, _, _, by first | (rw [HRES.out]; done) | (rw [HRES.out]; rfl), ?_, ?_, ?_, ?_, H7.out.below⟩
          · rw [HGN.out]; exact HN.out.step H7.out.below
          · rw [HGL2.out]; exact HL.out.step H7.out.below
          · rw [HWF.out]; exact MH7_q2.out.f.mono (by omega)
          · rw [HGA.out]; exact MH7_q2.out.a.mono (by omega)
        · refine regionW (fun W => ((Held _ W [(w1.heap.size, 0, .slice A ns.length c), (w1.heap.size, 1, .slice A2 ls.length c2), (w1.heap.size, 2, .slice A7 rs.length c7), (w1.heap.size, 3, .slice A8 ds.length c8)]) ∧ BlkN (w.heap.size + 1) 61 4 W) ∧ FI (w.heap.size + 1 + 1) (.slice A7 rs.length c7) rs (.slice A8 ds.length c8) ds W) (by kernel_rfl) ⟨⟨H8.out.drew, HK9.out⟩, (FI9.out).step ((Below.refl _ _).drew)⟩ ?_
          refine takeW (i := 0) (v := ?_) (Stable.and (Stable.and (Stable.held _ _) (stable_blkN (w.heap.size + 1) 61 4)) (stable_fi (w.heap.size + 1 + 1) (.slice A7 rs.length c7) rs (.slice A8 ds.length c8) ds)) rfl (by kernel_rfl) (by kernel_rfl) (by kernel_rfl) (fun _ _ _ h => h) ?_ ?_
          rotate_left
          · first | (refine Or.inl ⟨by rfl, fun W hS => detR_value (w' := W) ?_ (Below.refl _ _)⟩; obtain ⟨⟨hH, q1⟩, q2⟩ := hS; obtain ⟨x0, x1, x2, x3, _⟩ := hH.1; go_simp; first | done | with_reducible rfl) | fail
          simp only [Act.put, List.setIfInBounds_toArray, List.set_cons_zero, List.set_cons_succ]
          refine takeW (i := 1) (v := ?_) (Stable.and (Stable.and (Stable.held _ _) (stable_blkN (w.heap.size + 1) 61 4)) (stable_fi (w.heap.size + 1 + 1) (.slice A7 rs.length c7) rs (.slice A8 ds.length c8) ds)) rfl (by kernel_rfl) (by kernel_rfl) (by kernel_rfl) (fun _ _ _ h => h) ?_ ?_
          rotate_left
          · first | (refine Or.inl ⟨by rfl, fun W hS => detR_value (w' := W) ?_ (Below.refl _ _)⟩; obtain ⟨⟨hH, q1⟩, q2⟩ := hS; obtain ⟨x0, x1, x2, x3, _⟩ := hH.1; go_simp; first | done | with_reducible rfl) | fail
          simp only [Act.put, List.setIfInBounds_toArray, List.set_cons_zero, List.set_cons_succ]
          refine takeW (i := 2) (v := ?_) (Stable.and (Stable.and (Stable.held _ _) (stable_blkN (w.heap.size + 1) 61 4)) (stable_fi (w.heap.size + 1 + 1) (.slice A7 rs.length c7) rs (.slice A8 ds.length c8) ds)) rfl (by kernel_rfl) (by kernel_rfl) (by kernel_rfl) (fun _ _ _ h => h) ?_ ?_
          rotate_left
          · first | (refine Or.inl ⟨by rfl, fun W hS => detR_value (w' := W) ?_ (Below.refl _ _)⟩; obtain ⟨⟨hH, q1⟩, q2⟩ := hS; obtain ⟨x0, x1, x2, x3, _⟩ := hH.1; go_simp; first | done | with_reducible rfl) | fail
          simp only [Act.put, List.setIfInBounds_toArray, List.set_cons_zero, List.set_cons_succ]
          refine takeW (i := 3) (v := ?_) (Stable.and (Stable.and (Stable.held _ _) (stable_blkN (w.heap.size + 1) 61 4)) (stable_fi (w.heap.size + 1 + 1) (.slice A7 rs.length c7) rs (.slice A8 ds.length c8) ds)) rfl (by kernel_rfl) (by kernel_rfl) (by kernel_rfl) (fun _ _ _ h => h) ?_ ?_
          rotate_left
          · first | (refine Or.inr ⟨by rfl, ?_⟩; with_reducible rfl) | (refine Or.inl ⟨by rfl, fun W hS => detR_value (w' := W) ?_ (Below.refl _ _)⟩; obtain ⟨⟨hH, q1⟩, q2⟩ := hS; obtain ⟨x0, x1, x2, x3, _⟩ := hH.1; go_simp; first | done | with_reducible rfl) | fail
          simp only [Act.put, List.setIfInBounds_toArray, List.set_cons_zero, List.set_cons_succ]
          refine takeW (i := 4) (v := ?_) (Stable.and (Stable.and (Stable.held _ _) (stable_blkN (w.heap.size + 1) 61 4)) (stable_fi (w.heap.size + 1 + 1) (.slice A7 rs.length c7) rs (.slice A8 ds.length c8) ds)) rfl (by kernel_rfl) (by kernel_rfl) (by kernel_rfl) (fun _ _ _ h => h) ?_ ?_
          rotate_left
          · first | (refine Or.inr ⟨by rfl, ?_⟩; with_reducible rfl) | (refine Or.inl ⟨by rfl, fun W hS => detR_value (w' := W) ?_ (Below.refl _ _)⟩; obtain ⟨⟨hH, q1⟩, q2⟩ := hS; obtain ⟨x0, x1, x2, x3, _⟩ := hH.1; go_simp; first | done | with_reducible rfl) | fail
          simp only [Act.put, List.setIfInBounds_toArray, List.set_cons_zero, List.set_cons_succ]
          refine takeW (i := 5) (v := ?_) (Stable.and (Stable.and (Stable.held _ _) (stable_blkN (w.heap.size + 1) 61 4)) (stable_fi (w.heap.size + 1 + 1) (.slice A7 rs.length c7) rs (.slice A8 ds.length c8) ds)) rfl (by kernel_rfl) (by kernel_rfl) (by kernel_rfl) (fun _ _ _ h => h) ?_ ?_
          rotate_left
          · first | (refine Or.inr ⟨by rfl, ?_⟩; with_reducible rfl) | (refine Or.inl ⟨by rfl, fun W hS => ?_⟩; obtain ⟨⟨hH, q1⟩, q2⟩ := hS; refine detR_call (w' := W) (f := ?_) (args := ?_) ?_ ?_; rotate_left 2; (go_simp; (refine ⟨?_, ?_⟩ <;> with_reducible rfl)); (first | (with_reducible refine (HT.out _ _ _ _ _ _ _ _ _ _ _ _ hH.below).mono ?_) | fail); (first | (rintro e wn ⟨rfl, hb⟩; refine ⟨?_, hb⟩; with_reducible rfl) | (rintro e wn ⟨rfl, rfl⟩; refine ⟨?_, Below.refl _ _⟩; with_reducible rfl) | fail)) | fail
          simp only [Act.put, List.setIfInBounds_toArray, List.set_cons_zero, List.set_cons_succ]
          refine takeW (i := 6) (v := ?_) (Stable.and (Stable.and (Stable.held _ _) (stable_blkN (w.heap.size + 1) 61 4)) (stable_fi (w.heap.size + 1 + 1) (.slice A7 rs.length c7) rs (.slice A8 ds.length c8) ds)) rfl (by kernel_rfl) (by kernel_rfl) (by kernel_rfl) (fun _ _ _ h => h) ?_ ?_
          rotate_left
          · first | (refine Or.inl ⟨by rfl, fun W hS => detR_value (w' := W) ?_ (Below.refl _ _)⟩; obtain ⟨⟨hH, q1⟩, q2⟩ := hS; obtain ⟨x0, x1, x2, x3, _⟩ := hH.1; go_simp; first | done | with_reducible rfl) | fail
          simp only [Act.put, List.setIfInBounds_toArray, List.set_cons_zero, List.set_cons_succ]
          refine takeW (i := 7) (v := ?_) (Stable.and (Stable.and (Stable.held _ _) (stable_blkN (w.heap.size + 1) 61 4)) (stable_fi (w.heap.size + 1 + 1) (.slice A7 rs.length c7) rs (.slice A8 ds.length c8) ds)) rfl (by kernel_rfl) (by kernel_rfl) (by kernel_rfl) (fun _ _ _ h => h) ?_ ?_
          rotate_left
          · first | (refine Or.inl ⟨by rfl, fun W hS => detR_value (w' := W) ?_ (Below.refl _ _)⟩; obtain ⟨⟨hH, q1⟩, q2⟩ := hS; obtain ⟨x0, x1, x2, x3, _⟩ := hH.1; go_simp; first | done | with_reducible rfl) | fail
          simp only [Act.put, List.setIfInBounds_toArray, List.set_cons_zero, List.set_cons_succ]
          refine takeW (i := 8) (v := ?_) (Stable.and (Stable.and (Stable.held _ _) (stable_blkN (w.heap.size + 1) 61 4)) (stable_fi (w.heap.size + 1 + 1) (.slice A7 rs.length c7) rs (.slice A8 ds.length c8) ds)) rfl (by kernel_rfl) (by kernel_rfl) (by kernel_rfl) (fun _ _ _ h => h) ?_ ?_
          rotate_left
          · first | (refine Or.inr ⟨by rfl, ?_⟩; with_reducible rfl) | (refine Or.inl ⟨by rfl, fun W hS => detR_value (w' := W) ?_ (Below.refl _ _)⟩; obtain ⟨⟨hH, q1⟩, q2⟩ := hS; obtain ⟨x0, x1, x2, x3, _⟩ := hH.1; go_simp; first | done | with_reducible rfl) | fail
          simp only [Act.put, List.setIfInBounds_toArray, List.set_cons_zero, List.set_cons_succ]
          refine takeW (i := 9) (v := ?_) (Stable.and (Stable.and (Stable.held _ _) (stable_blkN (w.heap.size + 1) 61 4)) (stable_fi (w.heap.size + 1 + 1) (.slice A7 rs.length c7) rs (.slice A8 ds.length c8) ds)) rfl (by kernel_rfl) (by kernel_rfl) (by kernel_rfl) (fun _ _ _ h => h) ?_ ?_
          rotate_left
          · first | (refine Or.inr ⟨by rfl, ?_⟩; with_reducible rfl) | (refine Or.inl ⟨by rfl, fun W hS => detR_value (w' := W) ?_ (Below.refl _ _)⟩; obtain ⟨⟨hH, q1⟩, q2⟩ := hS; obtain ⟨x0, x1, x2, x3, _⟩ := hH.1; go_simp; first | done | with_reducible rfl) | fail
          simp only [Act.put, List.setIfInBounds_toArray, List.set_cons_zero, List.set_cons_succ]
          refine takeW (i := 10) (v := ?_) (Stable.and (Stable.and (Stable.held _ _) (stable_blkN (w.heap.size + 1) 61 4)) (stable_fi (w.heap.size + 1 + 1) (.slice A7 rs.length c7) rs (.slice A8 ds.length c8) ds)) rfl (by kernel_rfl) (by kernel_rfl) (by kernel_rfl) (fun _ _ _ h => h) ?_ ?_
          rotate_left
          · first | (refine Or.inl ⟨by rfl, fun W hS => detR_value (w' := W) ?_ (Below.refl _ _)⟩; obtain ⟨⟨hH, q1⟩, q2⟩ := hS; obtain ⟨x0, x1, x2, x3, _⟩ := hH.1; go_simp; first | done | with_reducible rfl) | fail
          simp only [Act.put, List.setIfInBounds_toArray, List.set_cons_zero, List.set_cons_succ]
          refine takeW (i := 11) (v := ?_) (Stable.and (Stable.and (Stable.held _ _) (stable_blkN (w.heap.size + 1) 61 4)) (stable_fi (w.heap.size + 1 + 1) (.slice A7 rs.length c7) rs (.slice A8 ds.length c8) ds)) rfl (by kernel_rfl) (by kernel_rfl) (by kernel_rfl) (fun _ _ _ h => h) ?_ ?_
          rotate_left
          · first | (refine Or.inl ⟨by rfl, fun W hS => detR_value (w' := W) ?_ (Below.refl _ _)⟩; obtain ⟨⟨hH, q1⟩, q2⟩ := hS; obtain ⟨x0, x1, x2, x3, _⟩ := hH.1; go_simp; first | done | with_reducible rfl) | fail
          simp only [Act.put, List.setIfInBounds_toArray, List.set_cons_zero, List.set_cons_succ]
          refine takeW (i := 12) (v := ?_) (Stable.and (Stable.and (Stable.held _ _) (stable_blkN (w.heap.size + 1) 61 4)) (stable_fi (w.heap.size + 1 + 1) (.slice A7 rs.length c7) rs (.slice A8 ds.length c8) ds)) rfl (by kernel_rfl) (by kernel_rfl) (by kernel_rfl) (fun _ _ _ h => h) ?_ ?_
          rotate_left
          · first | (refine Or.inr ⟨by rfl, ?_⟩; with_reducible rfl) | (refine Or.inl ⟨by rfl, fun W hS => detR_value (w' := W) ?_ (Below.refl _ _)⟩; obtain ⟨⟨hH, q1⟩, q2⟩ := hS; obtain ⟨x0, x1, x2, x3, _⟩ := hH.1; go_simp; first | done | with_reducible rfl) | fail
          simp only [Act.put, List.setIfInBounds_toArray, List.set_cons_zero, List.set_cons_succ]
          refine takeW (i := 13) (v := ?_) (Stable.and (Stable.and (Stable.held _ _) (stable_blkN (w.heap.size + 1) 61 4)) (stable_fi (w.heap.size + 1 + 1) (.slice A7 rs.length c7) rs (.slice A8 ds.length c8) ds)) rfl (by kernel_rfl) (by kernel_rfl) (by kernel_rfl) (fun _ _ _ h => h) ?_ ?_
          rotate_left
          · first | (refine Or.inr ⟨by rfl, ?_⟩; with_reducible rfl) | (refine Or.inl ⟨by rfl, fun W hS => detR_value (w' := W) ?_ (Below.refl _ _)⟩; obtain ⟨⟨hH, q1⟩, q2⟩ := hS; obtain ⟨x0, x1, x2, x3, _⟩ := hH.1; go_simp; first | done | with_reducible rfl) | fail
          simp only [Act.put, List.setIfInBounds_toArray, List.set_cons_zero, List.set_cons_succ]
          refine takeW (i := 14) (v := ?_) (Stable.and (Stable.and (Stable.held _ _) (stable_blkN (w.heap.size + 1) 61 4)) (stable_fi (w.heap.size + 1 + 1) (.slice A7 rs.length c7) rs (.slice A8 ds.length c8) ds)) rfl (by kernel_rfl) (by kernel_rfl) (by kernel_rfl) (fun _ _ _ h => h) ?_ ?_
          rotate_left
          · first | (refine Or.inl ⟨by rfl, fun W hS => detR_value (w' := W) ?_ (Below.refl _ _)⟩; obtain ⟨⟨hH, q1⟩, q2⟩ := hS; obtain ⟨x0, x1, x2, x3, _⟩ := hH.1; go_simp; first | done | with_reducible rfl) | fail
          simp only [Act.put, List.setIfInBounds_toArray, List.set_cons_zero, List.set_cons_succ]
          refine storeK (i := 15) (b := w.heap.size + 1) #[.slice A ns.length c, .slice A2 ls.length c2, .slice A7 rs.length c7, .slice A8 ds.length c8] (Stable.and (Stable.and (Stable.held _ _) (stable_blkN (w.heap.size + 1) 61 4)) (stable_fi (w.heap.size + 1 + 1) (.slice A7 rs.length c7) rs (.slice A8 ds.length c8) ds)) (fun W hS => by obtain ⟨⟨hH, q1⟩, q2⟩ := hS; exact q1) (fun W hS => by obtain ⟨⟨hH, q1⟩, q2⟩ := hS; exact ⟨⟨hH.setRowAt (by simp; omega) (Nat.le_succ _) _, q1.setRow rfl⟩, q2.setRow (Nat.lt_succ_self _) _⟩) rfl (by kernel_rfl) (by rfl) rfl (by rfl) (by rfl) rfl (by kernel_rfl) (by simp [Value.oneCell']) ?_
          simp only [Act.put, List.setIfInBounds_toArray, List.set_cons_zero, List.set_cons_succ]
          refine takeW (i := 16) (v := ?_) (Stable.and (Stable.and (Stable.and (Stable.held _ _) (stable_blkN (w.heap.size + 1) 61 4)) (stable_fi (w.heap.size + 1 + 1) (.slice A7 rs.length c7) rs (.slice A8 ds.length c8) ds)) (stable_blkIs _ _ _)) rfl (by kernel_rfl) (by kernel_rfl) (by kernel_rfl) (fun _ _ _ h => h) ?_ ?_
          rotate_left
          · first | (refine Or.inl ⟨by rfl, fun W hS => detR_value (w' := W) ?_ (Below.refl _ _)⟩; obtain ⟨⟨⟨hH, q1⟩, q2⟩, hs⟩ := hS; obtain ⟨x0, x1, x2, x3, _⟩ := hH.1; go_simp; first | done | with_reducible rfl) | fail
          simp only [Act.put, List.setIfInBounds_toArray, List.set_cons_zero, List.set_cons_succ]
          refine doneW (by kernel_rfl) fun wH7 HG => ?_
          obtain ⟨⟨⟨hH, q1⟩, q2⟩, hs⟩ := HG
          have H7 := Lib.hid hH; clear hH
          have MH7_q1 := Lib.hid q1; clear q1
          have MH7_q2 := Lib.hid q2; clear q2
          have MH7_s := Lib.hid hs; clear hs
          try clear x0 x1 x2 x3
          have r0 := (cell_of_cells (k := 0) MH7_s.out).trans (rfl : _ = some (Value.slice A ns.length c))
          have r1 := (cell_of_cells (k := 1) MH7_s.out).trans (rfl : _ = some (Value.slice A2 ls.length c2))
          have r2 := (cell_of_cells (k := 2) MH7_s.out).trans (rfl : _ = some (Value.slice A7 rs.length c7))
          have r3 := (cell_of_cells (k := 3) MH7_s.out).trans (rfl : _ = some (Value.slice A8 ds.length c8))
          go_wp2_with fail
          refine bodyPost_ret (v := .tuple #[.agg #[.slice A ns.length c, .slice A2 ls.length c2, .slice A7 rs.length c7, .slice A8 ds.length c8], .bool true]) (by simp [results, Tryz.results43, go_sem, r0, r1, r2, r3]) rfl ⟨_, _, _, _, by first | (rw [HRES.out]; done) | (rw [HRES.out]; rfl), ?_, ?_, ?_, ?_, H7.out.below⟩
          · rw [HGN.out]; exact HN.out.step H7.out.below
          · rw [HGL2.out]; exact HL.out.step H7.out.below
          · rw [HWF.out]; exact MH7_q2.out.f.mono (by omega)
          · rw [HGA.out]; exact MH7_q2.out.a.mono (by omega)
  · have HGY := Lib.hid (fun w h1 h2 => implGlassNo ns ls vn vl w h1 h2 (by simpa using hh))
    unfold GlassNo at HGY
    have HGN := Lib.hid (show gN ns ls = [] from if_neg hh)
    have HGL2 := Lib.hid (show gL ns ls = [] from if_neg hh)
    have HGA := Lib.hid (show gA ns ls = [] from if_neg hh)
    have HWF := Lib.hid (show wF ns ls = [] from if_neg hh)
    unfold GlassL
    have HRES := Lib.hid (show wgB ns ls xs a = false from by unfold wgB listB; rw [show wholeB ns ls = false by simpa using hh]; rfl)
    generalize wgB ns ls xs a = res at *
    have HX0 : Hid True := Lib.hid True.intro
    generalize wF ns ls = wf at *
    generalize gA ns ls = ga at *
    generalize gN ns ls = gn at *
    generalize gL ns ls = gl at *
    clear hh
    obtain ⟨A, c, rfl⟩ := prs_form2 hn
    obtain ⟨A2, c2, rfl⟩ := prs_form2 hl
    obtain ⟨A3, c3, rfl⟩ := seq_form2 hv
    clear hn hl hv
    go_enter Tryz.func43, Tryz.ntmps43
    go_wp2_with fail
    refine (HGY.out _ (HN.out.step H0.out.below) (HL.out.step H0.out.below)).mono ?_
    rintro e w1 ⟨rfl, hb⟩
    have H1 := Lib.hid (H0.out.step hb)
    have HB1 := Lib.hid (stable_blkN _ _ _ _ _ HB0.out hb)
    have hs1 := H1.out.2.1.1
    have H2 := Lib.hid (H1.out.new2 w1.heap.size rfl [.slice none 0 0, .slice none 0 0, .slice none 0 0, .slice none 0 0] 61)
    have H8 := Lib.hid (show Held w _ [(w1.heap.size, 0, .slice none 0 0), (w1.heap.size, 1, .slice none 0 0), (w1.heap.size, 2, .slice none 0 0), (w1.heap.size, 3, .slice none 0 0)] from H2.out.only (fun ⟨a, b, c, d, _⟩ => ⟨a, b, c, d, trivial⟩) (fun ⟨a, b, c, d, _⟩ => ⟨a, b, c, d, trivial⟩))
    have bq := below_alloc w1 (.cells #[.slice none 0 0, .slice none 0 0, .slice none 0 0, .slice none 0 0] 61)
    have HK9 := Lib.hid (stable_blkN _ _ _ _ _ HB1.out bq)
    clear hb bq H1 H2 HB0 HB1 H0 HGY
    obtain ⟨x0, x1, x2, x3, _⟩ := H8.out.1
    go_wp2_with fail
    generalize w1.alloc (.cells #[.slice none 0 0, .slice none 0 0, .slice none 0 0, .slice none 0 0] 61) = W8 at *
    obtain ⟨p, hp⟩ : ∃ p, decide (1 ≤ a) = p := ⟨_, rfl⟩
    obtain ⟨q, hq⟩ : ∃ q, decide (a ≤ 6) = q := ⟨_, rfl⟩
    refine regionW (fun W => (Held _ W [(w1.heap.size, 0, .slice none 0 0), (w1.heap.size, 1, .slice none 0 0), (w1.heap.size, 2, .slice none 0 0), (w1.heap.size, 3, .slice none 0 0)]) ∧ BlkN (w.heap.size + 1) 61 4 W) (by kernel_rfl) ⟨H8.out.drew, HK9.out⟩ ?_
    refine takeW (i := 0) (v := ?_) (Stable.and (Stable.held _ _) (stable_blkN (w.heap.size + 1) 61 4)) rfl (by kernel_rfl) (by kernel_rfl) (by kernel_rfl) (fun _ _ _ h => h) ?_ ?_
    rotate_left
    · first | (refine Or.inl ⟨by rfl, fun W hS => detR_value (w' := W) ?_ (Below.refl _ _)⟩; obtain ⟨hH, q1⟩ := hS; obtain ⟨x0, x1, x2, x3, _⟩ := hH.1; go_simp; first | done | with_reducible rfl) | fail
    simp only [Act.put, List.setIfInBounds_toArray, List.set_cons_zero, List.set_cons_succ]
    refine takeW (i := 1) (v := ?_) (Stable.and (Stable.held _ _) (stable_blkN (w.heap.size + 1) 61 4)) rfl (by kernel_rfl) (by kernel_rfl) (by kernel_rfl) (fun _ _ _ h => h) ?_ ?_
    rotate_left
    · first | (refine Or.inl ⟨by rfl, fun W hS => detR_value (w' := W) ?_ (Below.refl _ _)⟩; obtain ⟨hH, q1⟩ := hS; obtain ⟨x0, x1, x2, x3, _⟩ := hH.1; go_simp; first | done | with_reducible rfl) | fail
    simp only [Act.put, List.setIfInBounds_toArray, List.set_cons_zero, List.set_cons_succ]
    refine takeW (i := 2) (v := ?_) (Stable.and (Stable.held _ _) (stable_blkN (w.heap.size + 1) 61 4)) rfl (by kernel_rfl) (by kernel_rfl) (by kernel_rfl) (fun _ _ _ h => h) ?_ ?_
    rotate_left
    · first | (refine Or.inl ⟨by rfl, fun W hS => detR_value (w' := W) ?_ (Below.refl _ _)⟩; obtain ⟨hH, q1⟩ := hS; obtain ⟨x0, x1, x2, x3, _⟩ := hH.1; go_simp; first | done | with_reducible rfl) | fail
    simp only [Act.put, List.setIfInBounds_toArray, List.set_cons_zero, List.set_cons_succ]
    refine takeW (i := 3) (v := ?_) (Stable.and (Stable.held _ _) (stable_blkN (w.heap.size + 1) 61 4)) rfl (by kernel_rfl) (by kernel_rfl) (by kernel_rfl) (fun _ _ _ h => h) ?_ ?_
    rotate_left
    · first | (refine Or.inr ⟨by rfl, ?_⟩; with_reducible rfl) | (refine Or.inl ⟨by rfl, fun W hS => detR_value (w' := W) ?_ (Below.refl _ _)⟩; obtain ⟨hH, q1⟩ := hS; obtain ⟨x0, x1, x2, x3, _⟩ := hH.1; go_simp; first | done | with_reducible rfl) | fail
    simp only [Act.put, List.setIfInBounds_toArray, List.set_cons_zero, List.set_cons_succ]
    refine takeW (i := 4) (v := ?_) (Stable.and (Stable.held _ _) (stable_blkN (w.heap.size + 1) 61 4)) rfl (by kernel_rfl) (by kernel_rfl) (by kernel_rfl) (fun _ _ _ h => h) ?_ ?_
    rotate_left
    · first | (refine Or.inr ⟨by rfl, ?_⟩; with_reducible rfl) | (refine Or.inl ⟨by rfl, fun W hS => detR_value (w' := W) ?_ (Below.refl _ _)⟩; obtain ⟨hH, q1⟩ := hS; obtain ⟨x0, x1, x2, x3, _⟩ := hH.1; go_simp; first | done | with_reducible rfl) | fail
    simp only [Act.put, List.setIfInBounds_toArray, List.set_cons_zero, List.set_cons_succ]
    refine takeW (i := 5) (v := ?_) (Stable.and (Stable.held _ _) (stable_blkN (w.heap.size + 1) 61 4)) rfl (by kernel_rfl) (by kernel_rfl) (by kernel_rfl) (fun _ _ _ h => h) ?_ ?_
    rotate_left
    · first | (refine Or.inr ⟨by rfl, ?_⟩; with_reducible rfl) | (refine Or.inl ⟨by rfl, fun W hS => ?_⟩; obtain ⟨hH, q1⟩ := hS; refine detR_call (w' := W) (f := ?_) (args := ?_) ?_ ?_; rotate_left 2; (go_simp; (refine ⟨?_, ?_⟩ <;> with_reducible rfl)); (first | (with_reducible refine (HT.out _ _ _ _ _ _ _ _ _ _ _ _ hH.below).mono ?_) | fail); (first | (rintro e wn ⟨rfl, hb⟩; refine ⟨?_, hb⟩; with_reducible rfl) | (rintro e wn ⟨rfl, rfl⟩; refine ⟨?_, Below.refl _ _⟩; with_reducible rfl) | fail)) | fail
    simp only [Act.put, List.setIfInBounds_toArray, List.set_cons_zero, List.set_cons_succ]
    refine takeW (i := 6) (v := ?_) (Stable.and (Stable.held _ _) (stable_blkN (w.heap.size + 1) 61 4)) rfl (by kernel_rfl) (by kernel_rfl) (by kernel_rfl) (fun _ _ _ h => h) ?_ ?_
    rotate_left
    · first | (refine Or.inl ⟨by rfl, fun W hS => detR_value (w' := W) ?_ (Below.refl _ _)⟩; obtain ⟨hH, q1⟩ := hS; obtain ⟨x0, x1, x2, x3, _⟩ := hH.1; go_simp; first | done | with_reducible rfl) | fail
    simp only [Act.put, List.setIfInBounds_toArray, List.set_cons_zero, List.set_cons_succ]
    refine takeW (i := 7) (v := ?_) (Stable.and (Stable.held _ _) (stable_blkN (w.heap.size + 1) 61 4)) rfl (by kernel_rfl) (by kernel_rfl) (by kernel_rfl) (fun _ _ _ h => h) ?_ ?_
    rotate_left
    · first | (refine Or.inl ⟨by rfl, fun W hS => detR_value (w' := W) ?_ (Below.refl _ _)⟩; obtain ⟨hH, q1⟩ := hS; obtain ⟨x0, x1, x2, x3, _⟩ := hH.1; go_simp; first | done | with_reducible rfl) | fail
    simp only [Act.put, List.setIfInBounds_toArray, List.set_cons_zero, List.set_cons_succ]
    refine takeW (i := 8) (v := ?_) (Stable.and (Stable.held _ _) (stable_blkN (w.heap.size + 1) 61 4)) rfl (by kernel_rfl) (by kernel_rfl) (by kernel_rfl) (fun _ _ _ h => h) ?_ ?_
    rotate_left
    · first | (refine Or.inr ⟨by rfl, ?_⟩; with_reducible rfl) | (refine Or.inl ⟨by rfl, fun W hS => detR_value (w' := W) ?_ (Below.refl _ _)⟩; obtain ⟨hH, q1⟩ := hS; obtain ⟨x0, x1, x2, x3, _⟩ := hH.1; go_simp; first | done | with_reducible rfl) | fail
    simp only [Act.put, List.setIfInBounds_toArray, List.set_cons_zero, List.set_cons_succ]
    refine takeW (i := 9) (v := ?_) (Stable.and (Stable.held _ _) (stable_blkN (w.heap.size + 1) 61 4)) rfl (by kernel_rfl) (by kernel_rfl) (by kernel_rfl) (fun _ _ _ h => h) ?_ ?_
    rotate_left
    · first | (refine Or.inr ⟨by rfl, ?_⟩; with_reducible rfl) | (refine Or.inl ⟨by rfl, fun W hS => detR_value (w' := W) ?_ (Below.refl _ _)⟩; obtain ⟨hH, q1⟩ := hS; obtain ⟨x0, x1, x2, x3, _⟩ := hH.1; go_simp; first | done | with_reducible rfl) | fail
    simp only [Act.put, List.setIfInBounds_toArray, List.set_cons_zero, List.set_cons_succ]
    refine takeW (i := 10) (v := ?_) (Stable.and (Stable.held _ _) (stable_blkN (w.heap.size + 1) 61 4)) rfl (by kernel_rfl) (by kernel_rfl) (by kernel_rfl) (fun _ _ _ h => h) ?_ ?_
    rotate_left
    · first | (refine Or.inl ⟨by rfl, fun W hS => detR_value (w' := W) ?_ (Below.refl _ _)⟩; obtain ⟨hH, q1⟩ := hS; obtain ⟨x0, x1, x2, x3, _⟩ := hH.1; go_simp; first | done | with_reducible rfl) | fail
    simp only [Act.put, List.setIfInBounds_toArray, List.set_cons_zero, List.set_cons_succ]
    refine takeW (i := 11) (v := ?_) (Stable.and (Stable.held _ _) (stable_blkN (w.heap.size + 1) 61 4)) rfl (by kernel_rfl) (by kernel_rfl) (by kernel_rfl) (fun _ _ _ h => h) ?_ ?_
    rotate_left
    · first | (refine Or.inl ⟨by rfl, fun W hS => detR_value (w' := W) ?_ (Below.refl _ _)⟩; obtain ⟨hH, q1⟩ := hS; obtain ⟨x0, x1, x2, x3, _⟩ := hH.1; go_simp; first | done | with_reducible rfl) | fail
    simp only [Act.put, List.setIfInBounds_toArray, List.set_cons_zero, List.set_cons_succ]
    refine takeW (i := 12) (v := ?_) (Stable.and (Stable.held _ _) (stable_blkN (w.heap.size + 1) 61 4)) rfl (by kernel_rfl) (by kernel_rfl) (by kernel_rfl) (fun _ _ _ h => h) ?_ ?_
    rotate_left
    · first | (refine Or.inr ⟨by rfl, ?_⟩; with_reducible rfl) | (refine Or.inl ⟨by rfl, fun W hS => detR_value (w' := W) ?_ (Below.refl _ _)⟩; obtain ⟨hH, q1⟩ := hS; obtain ⟨x0, x1, x2, x3, _⟩ := hH.1; go_simp; first | done | with_reducible rfl) | fail
    simp only [Act.put, List.setIfInBounds_toArray, List.set_cons_zero, List.set_cons_succ]
    refine takeW (i := 13) (v := ?_) (Stable.and (Stable.held _ _) (stable_blkN (w.heap.size + 1) 61 4)) rfl (by kernel_rfl) (by kernel_rfl) (by kernel_rfl) (fun _ _ _ h => h) ?_ ?_
    rotate_left
    · first | (refine Or.inr ⟨by rfl, ?_⟩; with_reducible rfl) | (refine Or.inl ⟨by rfl, fun W hS => detR_value (w' := W) ?_ (Below.refl _ _)⟩; obtain ⟨hH, q1⟩ := hS; obtain ⟨x0, x1, x2, x3, _⟩ := hH.1; go_simp; first | done | with_reducible rfl) | fail
    simp only [Act.put, List.setIfInBounds_toArray, List.set_cons_zero, List.set_cons_succ]
    refine takeW (i := 14) (v := ?_) (Stable.and (Stable.held _ _) (stable_blkN (w.heap.size + 1) 61 4)) rfl (by kernel_rfl) (by kernel_rfl) (by kernel_rfl) (fun _ _ _ h => h) ?_ ?_
    rotate_left
    · first | (refine Or.inl ⟨by rfl, fun W hS => detR_value (w' := W) ?_ (Below.refl _ _)⟩; obtain ⟨hH, q1⟩ := hS; obtain ⟨x0, x1, x2, x3, _⟩ := hH.1; go_simp; first | done | with_reducible rfl) | fail
    simp only [Act.put, List.setIfInBounds_toArray, List.set_cons_zero, List.set_cons_succ]
    refine storeK (i := 15) (b := w.heap.size + 1) #[.slice none 0 0, .slice none 0 0, .slice none 0 0, .slice none 0 0] (Stable.and (Stable.held _ _) (stable_blkN (w.heap.size + 1) 61 4)) (fun W hS => by obtain ⟨hH, q1⟩ := hS; exact q1) (fun W hS => by obtain ⟨hH, q1⟩ := hS; exact ⟨hH.setRowAt (by simp; omega) (Nat.le_succ _) _, q1.setRow rfl⟩) rfl (by kernel_rfl) (by rfl) rfl (by rfl) (by rfl) rfl (by kernel_rfl) (by simp [Value.oneCell']) ?_
    simp only [Act.put, List.setIfInBounds_toArray, List.set_cons_zero, List.set_cons_succ]
    refine takeW (i := 16) (v := ?_) (Stable.and (Stable.and (Stable.held _ _) (stable_blkN (w.heap.size + 1) 61 4)) (stable_blkIs _ _ _)) rfl (by kernel_rfl) (by kernel_rfl) (by kernel_rfl) (fun _ _ _ h => h) ?_ ?_
    rotate_left
    · first | (refine Or.inl ⟨by rfl, fun W hS => detR_value (w' := W) ?_ (Below.refl _ _)⟩; obtain ⟨⟨hH, q1⟩, hs⟩ := hS; obtain ⟨x0, x1, x2, x3, _⟩ := hH.1; go_simp; first | done | with_reducible rfl) | fail
    simp only [Act.put, List.setIfInBounds_toArray, List.set_cons_zero, List.set_cons_succ]
    refine doneW (by kernel_rfl) fun wH7 HG => ?_
    obtain ⟨⟨hH, q1⟩, hs⟩ := HG
    have H7 := Lib.hid hH; clear hH
    have MH7_q1 := Lib.hid q1; clear q1
    have MH7_s := Lib.hid hs; clear hs
    try clear x0 x1 x2 x3
    have r0 := (cell_of_cells (k := 0) MH7_s.out).trans (rfl : _ = some (Value.slice none 0 0))
    have r1 := (cell_of_cells (k := 1) MH7_s.out).trans (rfl : _ = some (Value.slice none 0 0))
    have r2 := (cell_of_cells (k := 2) MH7_s.out).trans (rfl : _ = some (Value.slice none 0 0))
    have r3 := (cell_of_cells (k := 3) MH7_s.out).trans (rfl : _ = some (Value.slice none 0 0))
    go_wp2_with fail
    refine bodyPost_ret (v := .tuple #[.agg #[.slice none 0 0, .slice none 0 0, .slice none 0 0, .slice none 0 0], .bool false]) (by simp [results, Tryz.results43, go_sem, r0, r1, r2, r3]) rfl ⟨_, _, _, _, by first | (rw [HRES.out]; done) | (rw [HRES.out]; rfl), ?_, ?_, ?_, ?_, H7.out.below⟩
    · rw [HGN.out]; exact prs_nil _
    · rw [HGL2.out]; exact prs_nil _
    · rw [HWF.out]; exact Faces.nil _ _
    · rw [HGA.out]; exact Ints.nil _ _
end Go.Proofs.YtmcbbjobjogkmabGreat

namespace Go.Proofs.YtmcbbjobjogkmabGreat
open Go.RowKit
set_option linter.unusedVariables false
set_option linter.unusedSimpArgs false

/-- The first k wishes, and the rest open. -/
def wY (xs : List Int) (N k : Nat) : List Int := xs.take k ++ List.replicate (N - k) (-1)

section

variable {M : Nat → Nat → Bool} {N n k : Nat} {xs : List Int}

theorem wY_zero : wY xs N 0 = List.replicate N (-1) := by unfold wY; simp

theorem wY_full (hl : xs.length = N) : wY xs N N = xs := by unfold wY; simp [← hl]

theorem wY_len (hl : xs.length = N) (hk : k ≤ N) : (wY xs N k).length = N := by unfold wY; simp; omega

theorem wY_lo (hl : xs.length = N) {i : Nat} (h : i < k) (hk : k ≤ N) : atZ (wY xs N k) i = atZ xs i := by
  unfold atZ wY List.getD
  rw [List.getElem?_append_left (by simp; omega), List.getElem?_take, if_pos h]

theorem wY_hi (hl : xs.length = N) {i : Nat} (h : k ≤ i) (hi : i < N) : atZ (wY xs N k) i = -1 := by
  unfold atZ wY List.getD
  rw [List.getElem?_append_right (by simp; omega), List.getElem?_replicate, if_pos (by simp; omega)]
  rfl

theorem atZ_ext {a b : List Int} (hl : a.length = b.length) (h : ∀ i, i < a.length → atZ a i = atZ b i) : a = b := by
  refine List.ext_getElem hl fun i h1 h2 => ?_
  have := h i h1
  unfold atZ at this
  simpa [List.getD, h1, h2] using this

theorem wY_skip (hl : xs.length = N) (hk : k < N) (h : atZ xs k = -1) : wY xs N (k + 1) = wY xs N k := by
  refine atZ_ext (by rw [wY_len hl hk, wY_len hl (by omega)]) fun i hi => ?_
  rw [wY_len hl hk] at hi
  by_cases h1 : i < k
  · rw [wY_lo hl (by omega) hk, wY_lo hl h1 (by omega)]
  · by_cases h2 : i = k
    · subst h2; rw [wY_lo hl (Nat.lt_succ_self _) hk, h, wY_hi hl (Nat.le_refl _) hi]
    · rw [wY_hi hl (by omega) hi, wY_hi hl (by omega) hi]

theorem wY_set (hl : xs.length = N) (hk : k < N) : wY xs N (k + 1) = (wY xs N k).set k (atZ xs k) := by
  refine atZ_ext (by rw [List.length_set, wY_len hl hk, wY_len hl (by omega)]) fun i hi => ?_
  rw [wY_len hl hk] at hi
  rw [atZ_setI (by rw [wY_len hl (by omega)]; omega)]
  by_cases h1 : i < k
  · rw [if_neg (by omega), wY_lo hl (by omega) hk, wY_lo hl h1 (by omega)]
  · by_cases h2 : i = k
    · subst h2; rw [if_pos rfl, wY_lo hl (Nat.lt_succ_self _) hk]
    · rw [if_neg h2, wY_hi hl (by omega) hi, wY_hi hl (by omega) hi]

/-- The first k wishes stand one beside another in order. -/
def okW (M : Nat → Nat → Bool) (n : Nat) (xs : List Int) (k : Nat) : Prop := ∀ i, i < k → atZ xs i ≠ -1 → (∃ c : Nat, atZ xs i = c ∧ c < n) ∧ ∀ j, j < i → M i j = true → atZ xs j ≠ atZ xs i

theorem okW_zero : okW M n xs 0 := fun i hi => by omega

theorem okW_skip (h : okW M n xs k) (ho : atZ xs k = -1) : okW M n xs (k + 1) := fun i hi hne => by
  by_cases e : i = k
  · rw [e] at hne; exact absurd ho hne
  · exact h i (by omega) hne

theorem okW_prA (hsym : ∀ i j, M i j = M j i) (hirr : ∀ i, M i i = false) (h : okW M n xs N) : PrA M N n xs := fun i hi hne => by
  obtain ⟨⟨c, hc, hcn⟩, hd⟩ := h i hi hne
  refine ⟨⟨c, hc, hcn⟩, fun j hj hm => ?_⟩
  rcases Nat.lt_trichotomy j i with e | e | e
  · exact hd j e hm
  · rw [e, hirr] at hm; cases hm
  · by_cases ho : atZ xs j = -1
    · rw [ho, hc]; omega
    · exact fun e2 => (h j hj ho).2 i e (by rw [hsym]; exact hm) e2.symm

theorem prA_okW (h : PrA M N n xs) (hk : k ≤ N) : okW M n xs k := fun i hi hne => ⟨(h i (by omega) hne).1, fun j hj hm => (h i (by omega) hne).2 j (by omega) hm⟩

theorem free_wY (hirr : ∀ i, M i i = false) (hl : xs.length = N) (hk : k < N) {c : Nat} : freeJ (rowM M N k) (wY xs N k) c = true ↔ ∀ j, j < k → M k j = true → atZ xs j ≠ (c : Int) := by
  rw [freeJ_iff]
  constructor
  · intro h j hj hm
    have := h j (by omega) hm
    rwa [wY_lo hl hj (by omega)] at this
  · intro h j hj hm
    by_cases e : j < k
    · rw [wY_lo hl e (by omega)]; exact h j e hm
    · rw [wY_hi hl (by omega) hj]; omega

theorem has_wY (hirr : ∀ i, M i i = false) (hl : xs.length = N) (hk : k < N) {x : Int} : (chL (rowM M N k) (wY xs N k) n).contains x = true ↔ ∃ c : Nat, x = c ∧ c < n ∧ ∀ j, j < k → M k j = true → atZ xs j ≠ (c : Int) := by
  unfold chL
  rw [List.contains_iff_mem, fltN_mem]
  constructor
  · rintro ⟨c, h1, h2, h3⟩; exact ⟨c, h1, h2, (free_wY hirr hl hk).1 h3⟩
  · rintro ⟨c, h1, h2, h3⟩; exact ⟨c, h1, h2, (free_wY hirr hl hk).2 h3⟩

theorem okW_yes (hirr : ∀ i, M i i = false) (hl : xs.length = N) (hk : k < N) (h : okW M n xs k) (hc : (chL (rowM M N k) (wY xs N k) n).contains (atZ xs k) = true) : okW M n xs (k + 1) := fun i hi hne => by
  by_cases e : i = k
  · subst e
    obtain ⟨c, h1, h2, h3⟩ := (has_wY hirr hl hk).1 hc
    exact ⟨⟨c, h1, h2⟩, fun j hj hm => by rw [h1]; exact h3 j hj hm⟩
  · exact h i (by omega) hne

theorem okW_no (hirr : ∀ i, M i i = false) (hl : xs.length = N) (hk : k < N) (ho : atZ xs k ≠ -1) (hc : (chL (rowM M N k) (wY xs N k) n).contains (atZ xs k) = false) : ¬ PrA M N n xs := fun h => by
  obtain ⟨⟨c, h1, h2⟩, h3⟩ := h k hk ho
  have : (chL (rowM M N k) (wY xs N k) n).contains (atZ xs k) = true := (has_wY hirr hl hk).2 ⟨c, h1, h2, fun j hj hm => by rw [← h1]; exact h3 j (by omega) hm⟩
  rw [this] at hc; cases hc

theorem can_ord (hsym : ∀ i j, M i j = M j i) (hirr : ∀ i, M i i = false) (h : canB M N n xs = true) : PrA M N n xs := fun i hi hne => by
  obtain ⟨⟨c, hc, hcn⟩, hd⟩ := can_prA hsym hirr h i hi hne
  refine ⟨⟨c, hc, hcn⟩, fun j hj hm => ?_⟩
  by_cases ho : atZ xs j = -1
  · rw [ho, hc]; omega
  · exact hd j hj hm ho

end

open Classical in
/-- Whether the wishes stand in order. -/
noncomputable def prB (M : Nat → Nat → Bool) (N n : Nat) (xs : List Int) : Bool := decide (PrA M N n xs)

section

variable {M : Nat → Nat → Bool} {N n k : Nat} {xs : List Int}

theorem prB_iff : prB M N n xs = true ↔ PrA M N n xs := by unfold prB; simp

theorem prB_yes (hsym : ∀ i j, M i j = M j i) (hirr : ∀ i, M i i = false) (h : okW M n xs N) : prB M N n xs = true := prB_iff.2 (okW_prA hsym hirr h)

theorem prB_no (hirr : ∀ i, M i i = false) (hl : xs.length = N) (hk : k < N) (ho : atZ xs k ≠ -1) (hc : (chL (rowM M N k) (wY xs N k) n).contains (atZ xs k) = false) : prB M N n xs = false := by
  cases h : prB M N n xs
  · rfl
  · exact absurd (prB_iff.1 h) (okW_no hirr hl hk ho hc)

theorem can_prB (hsym : ∀ i j, M i j = M j i) (hirr : ∀ i, M i i = false) (h : prB M N n xs = false) : canB M N n xs = false := by
  cases e : canB M N n xs
  · rfl
  · rw [prB_iff.2 (can_ord hsym hirr e)] at h; cases h

/-- What search finds where something is given. -/
theorem srch_any (hsym : ∀ i j, M i j = M j i) (hirr : ∀ i, M i i = false) (hgl : xs.length = N) (hg : ∀ i, i < N → -1 ≤ atZ xs i) :
    (srch M xs n N []).isSome = canB M N n xs ∧ (srch M xs n N []).getD [] = finR M N n xs := by
  cases e : canB M N n xs
  · rw [srch_not hsym hirr hgl hg e, finR_no e]; exact ⟨rfl, rfl⟩
  · rw [srch_fin hsym hirr hgl hg (can_ord hsym hirr e), if_pos e, finR_yes e]; exact ⟨rfl, rfl⟩

end

def WshRet (b : Bool) (R : List (List Int)) (n : Nat) (xs : List Int) (w : World) (e : Ending) (w' : World) : Prop :=
  (b = true → ∃ vb vc us, e = .returned (.tuple #[.agg #[vb, vc, .int .i64 n], .bool true]) ∧ Cls w' w.heap.size vb vc us R xs) ∧ (b = false → e = .returned (.tuple #[.agg #[.slice none 0 0, .slice none 0 0, .int .i64 0], .bool false])) ∧ Below w.heap.size w w'

end Go.Proofs.YtmcbbjobjogkmabGreat

namespace Go.Proofs.YtmcbbjobjogkmabGreat
open Go.RowKit
set_option linter.unusedVariables false
set_option linter.unusedSimpArgs false

theorem containsV {w : World} {B : Nat} {v : Value} {xs : List Int} (x : Int) (h : Ints w B v xs) (hlen : xs.length ≤ 1048576) :
    Calls Tryz.prog 66 #[v, .int .i64 x] w (BoolIs (xs.contains x) w) := by
  obtain ⟨A, c, rfl, -⟩ := h.form
  by_cases h0 : xs.length = 0
  · obtain rfl : xs = [] := List.eq_nil_of_length_eq_zero h0
    exact containsNil x w A c
  · obtain ⟨g, c', e⟩ := h.some_ (by omega)
    simp only [Value.slice.injEq] at e
    obtain ⟨rfl, -, rfl⟩ := e
    exact (containsI x h hlen).mono fun e w' h => ⟨h.1, by rw [h.2]; exact Below.refl _ _⟩

set_option maxRecDepth 100000 in
set_option maxHeartbeats 4000000 in
theorem implWished (v1 v2 v3 v4 vx : Value) (rs : List (List Int)) (ds xs : List Int) (ns ls : List Nd) (B B2 n : Nat) (w : World) (hn : Prs w v1 ns) (hl : Prs w v2 ls) (hf : Faces w B v3 rs) (ha : Ints w B2 v4 ds) (hv : Seq w vx xs) (hk : ds.length = 2 * ls.length) (hd : ls.length ≤ 20) (hN : rs.length ≤ 13) (hxl : xs.length = rs.length) (h0 : 0 < rs.length) (hn6 : n ≤ 6) :
    Calls Tryz.prog 44 #[.agg #[v1, v2, v3, v4], .int .i64 n, vx] w (WshRet (prB (besM ds ls.length) rs.length n xs) (gath (rowM (besM ds ls.length) rs.length) rs.length) n xs w) := by
  have HBK := Lib.hid (fun W hb => implBlank v1 v2 v3 v4 rs ds ns ls B B2 n W (hn.step hb) (hl.step hb) (hf.step hb) (ha.step hb) hk hd (by omega))
  unfold BlankRet at HBK
  rw [besR] at HBK
  have HSYM := Lib.hid (besM_sym ds ls.length)
  have HIRR := Lib.hid (besM_irr ds ls.length)
  generalize besM ds ls.length = M at *
  have HRT := Lib.hid (rfl : WshRet (prB M rs.length n xs) (gath (rowM M rs.length) rs.length) n xs w = WshRet (prB M rs.length n xs) (gath (rowM M rs.length) rs.length) n xs w)
  have HV := Lib.hid hv
  obtain ⟨A, c, rfl⟩ := prs_form2 hn
  obtain ⟨A2, c2, rfl⟩ := prs_form2 hl
  obtain ⟨A3, c3, rfl⟩ := faces_form hf
  obtain ⟨A4, c4, rfl⟩ := ints_form ha
  obtain ⟨A5, c5, rfl⟩ := seq_form2 hv
  clear hn hl hf ha hv hk HRT
  generalize rs.length = N at *
  have HXL := Lib.hid hxl
  have HCH := Lib.hid (fun vb us ys cc (gc : Nat) k (hk : k < N) (hy : ys.length = N) B w h1 h2 => implChoices vb (.slice (some ⟨gc, 0, none⟩) ys.length cc) us (gath (rowM M N) N) ys n k B B w h1 h2 (by rw [gath_len]; exact hk) (fun j hj => by rw [gath_at _ hk] at hj ⊢; rw [hy]; exact rowM_lt hj) (by omega) (by rw [gath_at _ hk]; have := fltN_len (fun h => M k h) N; unfold rowM; omega) (by omega) (by rw [gath_len]; omega))
  have HYES := Lib.hid (fun h => prB_yes (M := M) (N := N) (n := n) (xs := xs) HSYM.out HIRR.out h)
  have HNO := Lib.hid (fun k hk ho hc => prB_no (M := M) (N := N) (n := n) (xs := xs) HIRR.out hxl (k := k) hk ho hc)
  have HZ := Lib.hid (wY_zero (xs := xs) (N := N))
  have HFU := Lib.hid (wY_full (xs := xs) hxl)
  have HLN := Lib.hid (fun k hk => wY_len (xs := xs) (k := k) hxl hk)
  have HSK := Lib.hid (fun k hk ho => wY_skip (xs := xs) (k := k) hxl hk ho)
  have HST := Lib.hid (fun k hk => wY_set (xs := xs) (k := k) hxl hk)
  have HO0 := Lib.hid (okW_zero (M := M) (n := n) (xs := xs))
  have HOS := Lib.hid (fun k h ho => okW_skip (M := M) (n := n) (xs := xs) (k := k) h ho)
  have HOY := Lib.hid (fun k hk h hc => okW_yes (M := M) (n := n) (xs := xs) (k := k) HIRR.out hxl hk h hc)
  have HGL : Hid ((gath (rowM M N) N).length = N) := Lib.hid (gath_len _ _)
  have HGA : Hid (∀ k, k < N → atR (gath (rowM M N) N) k = rowM M N k) := Lib.hid fun k hk => gath_at _ hk
  have HCN := Lib.hid (fun f ys => (show (chL (rowM M N f) ys n).length ≤ 6 from Nat.le_trans (fltN_len _ _) hn6))
  have HCH := Lib.hid (fun vb us ys cc (gc : Nat) k (hk : k < N) (hy : ys.length = N) B w h1 h2 => (show Calls Tryz.prog 62 #[.agg #[vb, .slice (some ⟨gc, 0, none⟩) ys.length cc, .int .i64 n], .int .i64 k] w (IntsNew (chL (rowM M N k) ys n) w) from by rw [← HGA.out k hk]; exact HCH.out vb us ys cc gc k hk hy B w h1 h2))
  unfold IntsNew at HCH
  generalize prB M N n xs = RB0 at *
  generalize okW M n xs = OK at *
  generalize wY xs N = Y at *
  generalize gath (rowM M N) N = GR at *
  clear hxl
  have H0 := Lib.hid ((Held.none_ w).new2 w.heap.size rfl [.slice A ns.length c, .slice A2 ls.length c2, .slice A3 N c3, .slice A4 ds.length c4] 61)
  have H1 := Lib.hid (H0.out.new2 (w.heap.size + 1) (by simp) [.slice none 0 0, .slice none 0 0, .int .i64 0] 65)
  have HF1 := Lib.hid (Frz.made (w.alloc (.cells #[.slice A ns.length c, .slice A2 ls.length c2, .slice A3 N c3, .slice A4 ds.length c4] 61)) #[.slice none 0 0, .slice none 0 0, .int .i64 0] 65 (w.heap.size + 1) (by simp))
  go_enter Tryz.func44, Tryz.ntmps44
  obtain ⟨x0, x1, x2, x3, x4, x5, x6, _⟩ := H1.out.1
  go_wp2_with fail
  refine (HBK.out _ H1.out.below).mono ?_
  rintro e w1 ⟨vb, vc, us, rfl, hcl, hb⟩
  have hs1 := H1.out.below.size
  have HC := Lib.hid (show Cls w1 (w.heap.size + 1 + 1) vb vc us GR (Y 0) from by rw [HZ.out]; simpa using hcl)
  have H2 := Lib.hid (H1.out.step hb)
  have hs2 := H2.out.2.1.2.2.2.2.1
  obtain ⟨gc, cc, rfl⟩ := HC.out.cols.some_ (by rw [HLN.out 0 (Nat.zero_le _)]; omega)
  rw [HLN.out 0 (Nat.zero_le _)] at HC ⊢
  obtain ⟨ab, cb, rfl, -⟩ := HC.out.rows.form
  rw [HGL.out] at HC ⊢
  have HF3 := Lib.hid ((HF1.out.step hb).step (below_alloc w1 (.cells #[.slice ab N cb, .slice (some ⟨gc, 0, none⟩) N cc, .int .i64 n] 65)))
  clear hcl hb hs1 HF1
  have hg := HC.out.cols.own gc rfl
  have H3 := Lib.hid ((H2.out.new2 w1.heap.size rfl [.slice ab N cb, .slice (some ⟨gc, 0, none⟩) N cc, .int .i64 n] 65))
  have HC3 := Lib.hid (HC.out.step (below_alloc w1 (.cells #[.slice ab N cb, .slice (some ⟨gc, 0, none⟩) N cc, .int .i64 n] 65)))
  clear x0 x1 x2 x3 x4 x5 x6 H0 H1 H2 HC
  obtain ⟨x0, x1, x2, x3, x4, x5, x6, x7, x8, x9, _⟩ := H3.out.1
  go_wp2_with fail
  have H4 := Lib.hid (show Held w _ [(w1.heap.size, 0, .slice ab N cb), (w1.heap.size, 1, .slice (some ⟨gc, 0, none⟩) N cc), (w1.heap.size, 2, .int .i64 n), (w.heap.size + 1, 0, .slice none 0 0), (w.heap.size + 1, 1, .slice none 0 0), (w.heap.size + 1, 2, .int .i64 0)] from H3.out.only (fun ⟨a, b, c, d, e, f, _⟩ => ⟨a, b, c, d, e, f, trivial⟩) (fun ⟨a, b, c, d, e, f, _⟩ => ⟨a, b, c, d, e, f, trivial⟩))
  clear H3 x0 x1 x2 x3 x4 x5 x6 x7 x8 x9
  go_loopw [16] (fun vk wr => ∃ k : Nat, k ≤ N ∧ vk = .int .i64 k ∧ OK k ∧ Cls wr (w.heap.size + 1 + 1) (.slice ab N cb) (.slice (some ⟨gc, 0, none⟩) N cc) us GR (Y k) ∧ Held w wr [(w1.heap.size, 0, .slice ab N cb), (w1.heap.size, 1, .slice (some ⟨gc, 0, none⟩) N cc), (w1.heap.size, 2, .int .i64 n), (w.heap.size + 1, 0, .slice none 0 0), (w.heap.size + 1, 1, .slice none 0 0), (w.heap.size + 1, 2, .int .i64 0)] ∧ Frz wr (w.heap.size + 1)) (fun vk _ => N - (intOf vk).toNat)
  case atStart => exact ⟨0, Nat.zero_le _, rfl, HO0.out, HC3.out, H4.out, HF3.out⟩
  case round =>
    clear H4 HC3 HF3
    obtain ⟨k, hk, rfl, hok, hcl, hh, hfz⟩ := hrel
    have HF := Lib.hid hfz; clear hfz
    have HOK := Lib.hid hok; clear hok
    have HC := Lib.hid hcl; clear hcl
    have H1 := Lib.hid hh; clear hh
    obtain ⟨x0, x1, x2, x3, x4, x5, _⟩ := H1.out.1
    by_cases hlt : k < N
    · have q1 : (k : Int) < (xs.length : Int) := by rw [HXL.out]; omega
      have q2 : k < xs.length := by rw [HXL.out]; omega
      have q3 : (k : Int) < (N : Int) := by omega
      have q0 : (0 : Int) ≤ k := by omega
      obtain ⟨b, o, rfl, hbl, hcs⟩ := seq_at (HV.out.step H1.out.below) k (by rw [HXL.out]; exact hlt)
      have z0 := hcs k (by rw [HXL.out]; exact hlt)
      clear hcs hbl
      have HSK1 := Lib.hid (HSK.out k hlt)
      have HST1 := Lib.hid (HST.out k hlt)
      have HOS1 := Lib.hid (HOS.out k HOK.out)
      have HOY1 := Lib.hid (HOY.out k hlt HOK.out)
      have HNO1 := Lib.hid (HNO.out k hlt)
      have HLk := Lib.hid (HLN.out k hk)
      have HCC := Lib.hid (HCN.out k (Y k))
      have HCHk := Lib.hid (HCH.out (.slice ab N cb) us (Y k) cc gc k hlt HLk.out (w.heap.size + 1 + 1))
      rw [HLk.out] at HCHk
      generalize atZ xs k = x at *
      generalize chL (rowM M N k) (Y k) n = L at *
      by_cases ho : x = -1
      · have HYK := Lib.hid (HSK1.out ho)
        have HOK1 := Lib.hid (HOS1.out ho)
        subst ho
        go_wp2_with fail
        exact ⟨⟨k + 1, by omega, by go_num, HOK1.out, by rw [HYK.out]; exact HC.out, H1.out, HF.out⟩, by simp [intOf]; omega⟩
      · have e1 : (x == -1) = false := by rw [beq_eq_false_iff_ne]; exact ho
        have e2 : decide (x = -1) = false := by simp [ho]
        have HNOx := Lib.hid (HNO1.out ho)
        clear ho
        go_wp2_with fail
        refine (HCHk.out _ HC.out.rows HC.out.cols).mono ?_
        rintro e w3 ⟨vL, rfl, hL, hb⟩
        have H5 := Lib.hid (H1.out.step hb)
        have HC5 := Lib.hid (HC.out.step hb)
        have HF5 := Lib.hid (HF.out.step hb)
        have hcc := HCC.out
        have HCT := Lib.hid (containsV x hL (by omega))
        clear hb hL x0 x1 x2 x3 x4 x5 H1
        go_wp2_with fail
        refine HCT.out.mono ?_
        rintro e w4 ⟨rfl, hb⟩
        have H6 := Lib.hid (H5.out.step hb)
        have HC6 := Lib.hid (HC5.out.step hb)
        have HF6 := Lib.hid (HF5.out.step hb)
        obtain ⟨t0, t1, t2, -, -⟩ := HC6.out.cols.at_ (j := k) (by rw [HLk.out]; exact hlt)
        have f0 := HF6.out.1 0
        have f1 := HF6.out.1 1
        have f2 := HF6.out.1 2
        clear hb H5 HC5 HF5
        obtain ⟨x0, x1, x2, x3, x4, x5, _⟩ := H6.out.1
        cases hct : L.contains x
        · have HN0 := Lib.hid (HNOx.out hct)
          go_wp2_with fail
          have H7 := Lib.hid (show Held w _ [(w.heap.size + 1, 0, .slice none 0 0), (w.heap.size + 1, 1, .slice none 0 0), (w.heap.size + 1, 2, .int .i64 0), (w1.heap.size, 0, .slice ab N cb), (w1.heap.size, 1, .slice (some ⟨gc, 0, none⟩) N cc), (w1.heap.size, 2, .int .i64 n)] from H6.out.only (fun ⟨a, b, c, d, e, f, _⟩ => ⟨d, e, f, a, b, c, trivial⟩) (fun ⟨a, b, c, d, e, f, _⟩ => ⟨d, e, f, a, b, c, trivial⟩))
          have hnb : ∀ x0 x1 x2, Nblk (w.heap.size + 1) [(w1.heap.size, 0, x0), (w1.heap.size, 1, x1), (w1.heap.size, 2, x2)] := fun _ _ _ => ⟨by omega, by omega, by omega, trivial⟩
          have H8 := Lib.hid (((H7.out.at0 (hnb _ _ _) (Nat.le_succ _) (.slice none 0 0)).at1 (hnb _ _ _) (Nat.le_succ _) (.slice none 0 0)).at2 (hnb _ _ _) (Nat.le_succ _) (.int .i64 0))
          clear H7
          obtain ⟨r0, r1, r2, _⟩ := H8.out.1
          exact bodyPost_ret (v := .tuple #[.agg #[(.slice none 0 0), (.slice none 0 0), (.int .i64 0)], .bool false]) (by simp [results, Tryz.results44, go_sem, r0, r1, r2]) rfl (by unfold WshRet; exact ⟨fun h => (by rw [HN0.out] at h; cases h), fun _ => rfl, H8.out.below⟩)
        · have HOK1 := Lib.hid (HOY1.out hct)
          go_wp2_with fail
          have HC7 := Lib.hid (HC6.out.setC (k := k) HLk.out.symm x)
          rw [← HST1.out] at HC7
          exact ⟨⟨k + 1, by omega, by go_num, HOK1.out, HC7.out, H6.out.setN (by refine ⟨?_, ?_, ?_, ?_, ?_, ?_, trivial⟩ <;> (simp; omega)) (by omega), HF6.out.put _ _⟩, by simp [intOf]; omega⟩
    · have q1 : ¬ (k : Int) < (xs.length : Int) := by rw [HXL.out]; omega
      have q2 : ¬ k < xs.length := by rw [HXL.out]; omega
      have f0 := HF.out.1 0
      have f1 := HF.out.1 1
      have f2 := HF.out.1 2
      obtain rfl : k = N := by omega
      have HY1 := Lib.hid (HYES.out HOK.out)
      go_wp2_with fail
      have H7 := Lib.hid (show Held w _ [(w.heap.size + 1, 0, .slice none 0 0), (w.heap.size + 1, 1, .slice none 0 0), (w.heap.size + 1, 2, .int .i64 0), (w1.heap.size, 0, .slice ab k cb), (w1.heap.size, 1, .slice (some ⟨gc, 0, none⟩) k cc), (w1.heap.size, 2, .int .i64 n)] from H1.out.only (fun ⟨a, b, c, d, e, f, _⟩ => ⟨d, e, f, a, b, c, trivial⟩) (fun ⟨a, b, c, d, e, f, _⟩ => ⟨d, e, f, a, b, c, trivial⟩))
      have hnb : ∀ x0 x1 x2, Nblk (w.heap.size + 1) [(w1.heap.size, 0, x0), (w1.heap.size, 1, x1), (w1.heap.size, 2, x2)] := fun _ _ _ => ⟨by omega, by omega, by omega, trivial⟩
      have H8 := Lib.hid (((H7.out.at0 (hnb _ _ _) (Nat.le_succ _) (.slice ab k cb)).at1 (hnb _ _ _) (Nat.le_succ _) (.slice (some ⟨gc, 0, none⟩) k cc)).at2 (hnb _ _ _) (Nat.le_succ _) (.int .i64 n))
      clear H7
      obtain ⟨r0, r1, r2, _⟩ := H8.out.1
      exact bodyPost_ret (v := .tuple #[.agg #[(.slice ab k cb), (.slice (some ⟨gc, 0, none⟩) k cc), (.int .i64 n)], .bool true]) (by simp [results, Tryz.results44, go_sem, r0, r1, r2]) rfl (by unfold WshRet; exact ⟨fun _ => ⟨_, _, us, rfl, by rw [← HFU.out]; exact (((HC.out.put (Nat.lt_succ_self _) _ _).put (Nat.lt_succ_self _) _ _).put (Nat.lt_succ_self _) _ _).mono (by omega)⟩, fun h => (by rw [HY1.out] at h; cases h), H8.out.below⟩)
end Go.Proofs.YtmcbbjobjogkmabGreat

namespace Go.Proofs.YtmcbbjobjogkmabGreat
open Go.RowKit
set_option linter.unusedVariables false
set_option linter.unusedSimpArgs false

/-- Whether the wishes can be filled, and how first. -/
noncomputable def fwB (ns ls : List Nd) (xs : List Int) (a : Int) : Bool := wgB ns ls xs a && canB (besM (atW ns ls) ls.length) (wF ns ls).length a.toNat xs

noncomputable def fwL (ns ls : List Nd) (xs : List Int) (a : Int) : List Int := if wgB ns ls xs a = true then finR (besM (atW ns ls) ls.length) (wF ns ls).length a.toNat xs else []

theorem fwB_no {ns ls : List Nd} {xs : List Int} {a : Int} (h : wgB ns ls xs a = false) : fwB ns ls xs a = false := by unfold fwB; rw [h]; rfl

theorem fwL_no {ns ls : List Nd} {xs : List Int} {a : Int} (h : wgB ns ls xs a = false) : fwL ns ls xs a = [] := if_neg (by rw [h]; simp)

theorem fwB_yes {ns ls : List Nd} {xs : List Int} {a : Int} (n : Nat) (ha : a = n) (h : wgB ns ls xs a = true) : fwB ns ls xs a = canB (besM (atW ns ls) ls.length) (wF ns ls).length n xs := by unfold fwB; rw [h, ha]; rfl

theorem fwL_yes {ns ls : List Nd} {xs : List Int} {a : Int} (n : Nat) (ha : a = n) (h : wgB ns ls xs a = true) : fwL ns ls xs a = finR (besM (atW ns ls) ls.length) (wF ns ls).length n xs := by unfold fwL; rw [if_pos h, ha]; rfl

theorem wg_no1 {ns ls : List Nd} {xs : List Int} {a : Int} (h : listB ns ls (-1) 5 xs = false) : wgB ns ls xs a = false := by unfold wgB; rw [h]; rfl

theorem wg_no2 {ns ls : List Nd} {xs : List Int} {a : Int} (h : inB a 1 6 = false) : wgB ns ls xs a = false := by
  unfold wgB
  have : ¬ (1 ≤ a ∧ a ≤ 6) := fun e => by rw [(inB_iff a 1 6).2 e] at h; cases h
  cases e : listB ns ls (-1) 5 xs <;> simp <;> omega

theorem wg_yes {ns ls : List Nd} {xs : List Int} {a : Int} (h1 : listB ns ls (-1) 5 xs = true) (h2 : inB a 1 6 = true) : wgB ns ls xs a = true := by
  have := (inB_iff a 1 6).1 h2
  unfold wgB; rw [h1]; simp; omega

theorem wg_parts {ns ls : List Nd} {xs : List Int} {a : Int} (h : wgB ns ls xs a = true) : listB ns ls (-1) 5 xs = true ∧ 1 ≤ a ∧ a ≤ 6 := by
  unfold wgB at h
  simp [Bool.and_eq_true] at h
  exact ⟨h.1, h.2.1, h.2.2⟩

theorem wg_list {ns ls : List Nd} {xs : List Int} {a : Int} (h : wgB ns ls xs a = true) : wholeB ns ls = true ∧ xs.length = (wF ns ls).length ∧ 0 < (wF ns ls).length ∧ ∀ i, i < (wF ns ls).length → -1 ≤ atZ xs i := by
  obtain ⟨h1, h2, h3⟩ := listB_parts (wg_parts h).1
  refine ⟨h1, h2, by rw [wF_whole h1]; exact starts_pos (whole_win h1).1 (whole_win h1).2.1, fun i hi => ((inR_iff xs (-1) 5).1 h3 i (by omega)).1⟩

theorem finR_len {M : Nat → Nat → Bool} {N n : Nat} {xs : List Int} (h : xs.length ≤ 20) : (finR M N n xs).length ≤ 20 := by
  unfold finR
  split
  · rw [finK_len]; exact h
  · simp

theorem fwL_len (ns ls : List Nd) (xs : List Int) (a : Int) : (fwL ns ls xs a).length ≤ 20 := by
  unfold fwL
  split
  · rename_i h
    have := (wg_list h).2.1; have := wF_thirteen ns ls
    exact finR_len (by omega)
  · simp

theorem finish_gen (M : Nat → Nat → Bool) (hsym : ∀ i j, M i j = M j i) (hirr : ∀ i, M i i = false) (N n : Nat) (hN : N ≤ 13) (hn : n ≤ 6) (h0 : 0 < N) (xs : List Int) (hr : xs.length = N) (hp : PrA M N n xs) (vb vc : Value) (Z B : Nat) (us : List Value) (hB : B ≤ Z) (w : World) (hBw : B ≤ w.heap.size) (hc : Cls w Z vb vc us (gath (rowM M N) N) xs) :
    Calls Tryz.prog 37 #[.agg #[vb, vc, .int .i64 n]] w (fun e w' => (∃ v, e = .returned (.tuple #[v, .bool (canB M N n xs)]) ∧ Ints w' Z v (finR M N n xs)) ∧ Below B w w') := by
  have hl : (gath (rowM M N) N).length = N := gath_len _ _
  obtain ⟨ab, cb, rfl, -⟩ := hc.rows.form
  rw [hl] at hc ⊢
  obtain ⟨gc, cc, rfl⟩ := hc.cols.some_ (by rw [hr]; omega)
  rw [hr] at hc ⊢
  have hg := (hc.cols.own gc rfl).1
  exact (implFinish M hsym hirr N n hN hn ab gc cb cc Z us _ hl (fun k hk => gath_at _ hk) xs w hr hp hc).mono fun e w' h => ⟨h.1, h.2.os, h.2.tape, h.2.output, h.2.size, fun k hk => h.2.block k (by omega) (.inl (by omega))⟩

theorem can_gen (M : Nat → Nat → Bool) (hsym : ∀ i j, M i j = M j i) (hirr : ∀ i, M i i = false) (N n : Nat) (hN : N ≤ 13) (hn : n ≤ 6) (h0 : 0 < N) (xs : List Int) (hr : xs.length = N) (hp : PrA M N n xs) (vb vc : Value) (Z B : Nat) (us : List Value) (hB : B ≤ Z) (w : World) (hBw : B ≤ w.heap.size) (hc : Cls w Z vb vc us (gath (rowM M N) N) xs) :
    Calls Tryz.prog 61 #[.agg #[vb, vc, .int .i64 n]] w (fun e w' => e = .returned (.bool (canB M N n xs)) ∧ Below B w w') := by
  have hl : (gath (rowM M N) N).length = N := gath_len _ _
  obtain ⟨ab, cb, rfl, -⟩ := hc.rows.form
  rw [hl] at hc ⊢
  obtain ⟨gc, cc, rfl⟩ := hc.cols.some_ (by rw [hr]; omega)
  rw [hr] at hc ⊢
  have hg := (hc.cols.own gc rfl).1
  exact (implCanA M hsym hirr N n hN hn ab gc cb cc Z us _ hl (fun k hk => gath_at _ hk) N xs w (by rw [← hr]; exact openC_le xs) hr hp hc).mono fun e w' h => ⟨h.1, h.2.2.os, h.2.2.tape, h.2.2.output, h.2.2.size, fun k hk => h.2.2.block k (by omega) (.inl (by omega))⟩

set_option maxRecDepth 100000 in
set_option maxHeartbeats 4000000 in
theorem specFill (ns ls : List Nd) (xs : List Int) (vn vl v : Value) (a : Int) (w : World) (hn : Prs w vn ns) (hl : Prs w vl ls) (hv : Seq w v xs) :
    Calls Tryz.prog 19 #[.agg #[vn, vl], v, .int .i64 a] w (CwRet (fwB ns ls xs a) (fwL ns ls xs a) w) := by
  have HW := Lib.hid (fun w h1 h2 h3 => specWishOk ns ls xs vn vl v w h1 h2 h3)
  unfold BoolIs at HW
  have HM := Lib.hid (fun w h1 h2 (hh : wholeB ns ls = true) => specMat ns ls vn vl w h1 h2 hh)
  unfold MatNew at HM
  have HI := Lib.hid (fun w => specIn a 1 6 w)
  have HA := Lib.hid (fun (n : Nat) (hn : n ≤ 6) (hgl : xs.length = (wF ns ls).length) am cm g vg vx B w h1 h2 h3 => specSrchA (besM (atW ns ls) ls.length) (besM_sym (atW ns ls) ls.length) (wF ns ls).length n (wF_thirteen ns ls) hn am cm g xs vg hgl (wF ns ls).length [] vx B w (by simp) h1 h2 h3)
  unfold SrchRet at HA
  have HSO := Lib.hid (fun n h1 h2 => srch_any (M := besM (atW ns ls) ls.length) (N := (wF ns ls).length) (n := n) (xs := xs) (besM_sym (atW ns ls) ls.length) (besM_irr _ _) h1 h2)
  have HN := Lib.hid hn
  have HL := Lib.hid hl
  have HV := Lib.hid hv
  have H0 := Lib.hid (held_pair w vn vl 33)
  obtain ⟨A, c, rfl⟩ := prs_form2 hn
  obtain ⟨A2, c2, rfl⟩ := prs_form2 hl
  obtain ⟨A3, c3, rfl⟩ := seq_form2 hv
  clear hn hl hv
  have HYB := Lib.hid (fun n h1 h2 => fwB_yes (ns := ns) (ls := ls) (xs := xs) (a := a) n h1 h2)
  have HYL := Lib.hid (fun n h1 h2 => fwL_yes (ns := ns) (ls := ls) (xs := xs) (a := a) n h1 h2)
  have HNO1 := Lib.hid (fun h => wg_no1 (ns := ns) (ls := ls) (xs := xs) (a := a) h)
  have HNO2 := Lib.hid (fun h => wg_no2 (ns := ns) (ls := ls) (xs := xs) (a := a) h)
  have HYES := Lib.hid (fun h1 h2 => wg_yes (ns := ns) (ls := ls) (xs := xs) (a := a) h1 h2)
  have HPT := Lib.hid (fun h => wg_list (ns := ns) (ls := ls) (xs := xs) (a := a) h)
  have HBN := Lib.hid (fun h => fwB_no (ns := ns) (ls := ls) (xs := xs) (a := a) h)
  have HLN := Lib.hid (fun h => fwL_no (ns := ns) (ls := ls) (xs := xs) (a := a) h)
  have HIN := Lib.hid (show inB a 1 6 = true → ∃ n : Nat, a = n ∧ n ≤ 6 from fun h => by have := (inB_iff _ _ _).1 h; exact ⟨a.toNat, by omega, by omega⟩)
  have hN40 := wF_len (ns := ns) (ls := ls)
  generalize fwB ns ls xs a = QB at *
  generalize fwL ns ls xs a = QL at *
  generalize wgB ns ls xs a = WG at *
  generalize listB ns ls (-1) 5 xs = ok at *
  generalize inB a 1 6 = ok2 at *
  generalize besM (atW ns ls) ls.length = M at *
  generalize (wF ns ls).length = N at *
  go_enter Tryz.func19, Tryz.ntmps19
  obtain ⟨x0, x1, _⟩ := H0.out.1
  go_wp2_with fail
  refine (HW.out _ (HN.out.step H0.out.below) (HL.out.step H0.out.below) (HV.out.step H0.out.below)).mono ?_
  rintro e w1 ⟨rfl, hb⟩
  have H1 := Lib.hid (H0.out.step hb)
  clear hb x0 x1
  obtain ⟨x0, x1, _⟩ := H1.out.1
  cases ok
  · have HNO := Lib.hid (HNO1.out (by first | rfl | trivial))
    have HF := Lib.hid (HBN.out HNO.out)
    have HFL := Lib.hid (HLN.out HNO.out)
    go_wp2_with fail
    rw [HF.out, HFL.out]
    exact bodyPost_ret (v := .tuple #[.slice (some ⟨w1.heap.size, 0, none⟩) 0 0, .bool false]) (by simp [results, Tryz.results19, go_sem]) rfl (by unfold CwRet; exact ⟨⟨_, rfl, Ints.made w1 _ _ rfl H1.out.below.size⟩, H1.out.below.alloc H1.out.below.size _⟩)
  · go_wp2_with fail
    refine (HI.out _).mono ?_
    rintro e w2 ⟨rfl, rfl⟩
    cases ok2
    · have HNO := Lib.hid (HNO2.out (by first | rfl | trivial))
      have HF := Lib.hid (HBN.out HNO.out)
      have HFL := Lib.hid (HLN.out HNO.out)
      go_wp2_with fail
      rw [HF.out, HFL.out]
      exact bodyPost_ret (v := .tuple #[.slice (some ⟨w1.heap.size, 0, none⟩) 0 0, .bool false]) (by simp [results, Tryz.results19, go_sem]) rfl (by unfold CwRet; exact ⟨⟨_, rfl, Ints.made w1 _ _ rfl H1.out.below.size⟩, H1.out.below.alloc H1.out.below.size _⟩)
    · obtain ⟨n, rfl, hn6⟩ := HIN.out (by first | rfl | trivial)
      have HWG := Lib.hid (HYES.out (by first | rfl | trivial) (by first | rfl | trivial))
      obtain ⟨hwh, hxl, hpos, hlow⟩ := HPT.out HWG.out
      have HB := Lib.hid (HYB.out n rfl HWG.out)
      have HLL := Lib.hid (HYL.out n rfl HWG.out)
      have HAN := Lib.hid (HA.out n hn6 hxl)
      have HSN := Lib.hid (HSO.out n hxl hlow)
      have HWH := Lib.hid hwh
      clear HYB HYL HA HSO hwh hxl hpos hlow HPT HYES HNO1 HNO2
      generalize srch M xs n N [] = S at *
      obtain ⟨hs1, hs2⟩ := HSN.out
      rw [← hs1] at HB
      rw [← hs2] at HLL
      clear hs1 hs2 HSN
      go_wp2_with fail
      refine (HM.out _ (HN.out.step H1.out.below) (HL.out.step H1.out.below) HWH.out).mono ?_
      rintro e w3 ⟨v, g, rfl, hm, hb⟩
      have H3 := Lib.hid (H1.out.step hb)
      have HM3 := Lib.hid ((hm.mono (b' := 0) (Nat.zero_le _)).step (below_alloc w3 (.cells #[] 3)))
      obtain ⟨am, cm, rfl, -⟩ := hm.form
      have HX4 := Lib.hid (Ints.made w3 w3.heap.size w3.heap.size rfl (Nat.le_refl _))
      have H5 := Lib.hid (H3.out.alloc (.cells #[] 3))
      clear hb hm x0 x1
      go_wp2_with fail
      refine (HAN.out am cm g _ _ _ _ HM3.out (HV.out.step H5.out.below) HX4.out).mono ?_
      rintro e w6 ⟨⟨v6, rfl, hv6⟩, hb⟩
      have H6 := Lib.hid (H5.out.step hb)
      have HV6 := Lib.hid (hv6.mono (b' := w.heap.size) H5.out.below.size)
      clear hb hv6
      go_wp2_with fail
      rw [HB.out, HLL.out]
      exact bodyPost_ret (v := .tuple #[v6, .bool S.isSome]) (by simp [results, Tryz.results19, go_sem]) rfl (by unfold CwRet; exact ⟨⟨v6, rfl, HV6.out⟩, H6.out.below⟩)

set_option maxRecDepth 100000 in
set_option maxHeartbeats 4000000 in
theorem implFill (ns ls : List Nd) (xs : List Int) (vn vl v : Value) (a : Int) (w : World) (hn : Prs w vn ns) (hl : Prs w vl ls) (hv : Seq w v xs) :
    Calls Tryz.prog 21 #[.agg #[vn, vl], v, .int .i64 a] w (CwRet (fwB ns ls xs a) (fwL ns ls xs a) w) := by
  have HWG := Lib.hid (fun w h1 h2 h3 => implWishG ns ls xs vn vl v a w h1 h2 h3)
  unfold GlassL at HWG
  have HWI := Lib.hid (fun (hok : wgB ns ls xs a = true) (n : Nat) (hn : n ≤ 6) v1 v2 v3 v4 vx B w h1 h2 h3 h4 h5 => implWished v1 v2 v3 v4 vx (wF ns ls) (gA ns ls) xs (gN ns ls) (gL ns ls) B B n w h1 h2 h3 h4 h5 (g_len ns ls).1 (g_len ns ls).2 (wF_thirteen ns ls) (wg_list hok).2.1 (wg_list hok).2.2.1 hn)
  unfold WshRet at HWI
  have HFG := Lib.hid (fun (hok : wgB ns ls xs a = true) (n : Nat) (hn : n ≤ 6) hp vb vc Z B us hB w hBw hc => finish_gen (besM (gA ns ls) (gL ns ls).length) (besM_sym _ _) (besM_irr _ _) (wF ns ls).length n (wF_thirteen ns ls) hn (wg_list hok).2.2.1 xs (wg_list hok).2.1 hp vb vc Z B us hB w hBw hc)
  have HN := Lib.hid hn
  have HL := Lib.hid hl
  have HV := Lib.hid hv
  have H0 := Lib.hid (held_pair w vn vl 33)
  obtain ⟨A, c, rfl⟩ := prs_form2 hn
  obtain ⟨A2, c2, rfl⟩ := prs_form2 hl
  obtain ⟨A3, c3, rfl⟩ := seq_form2 hv
  clear hn hl hv
  have HYB := Lib.hid (fun n h1 (h2 : wgB ns ls xs a = true) => (show fwB ns ls xs a = canB (besM (gA ns ls) (gL ns ls).length) (wF ns ls).length n xs from by rw [(gA_whole (wg_list h2).1).1, (gA_whole (wg_list h2).1).2]; exact fwB_yes n h1 h2))
  have HYL := Lib.hid (fun n h1 (h2 : wgB ns ls xs a = true) => (show fwL ns ls xs a = finR (besM (gA ns ls) (gL ns ls).length) (wF ns ls).length n xs from by rw [(gA_whole (wg_list h2).1).1, (gA_whole (wg_list h2).1).2]; exact fwL_yes n h1 h2))
  have HBN := Lib.hid (fun h => fwB_no (ns := ns) (ls := ls) (xs := xs) (a := a) h)
  have HLN := Lib.hid (fun h => fwL_no (ns := ns) (ls := ls) (xs := xs) (a := a) h)
  have HIN := Lib.hid (show wgB ns ls xs a = true → ∃ n : Nat, a = n ∧ n ≤ 6 from fun h => by have := wg_parts h; exact ⟨a.toNat, by omega, by omega⟩)
  have HCP := Lib.hid (fun n h => can_prB (M := besM (gA ns ls) (gL ns ls).length) (N := (wF ns ls).length) (n := n) (xs := xs) (besM_sym _ _) (besM_irr _ _) h)
  have HPR := Lib.hid (fun n => (prB_iff (M := besM (gA ns ls) (gL ns ls).length) (N := (wF ns ls).length) (n := n) (xs := xs)))
  generalize fwB ns ls xs a = QB at *
  generalize fwL ns ls xs a = QL at *
  generalize wgB ns ls xs a = WG at *
  generalize besM (gA ns ls) (gL ns ls).length = M at *
  generalize gN ns ls = ns' at *
  generalize gL ns ls = ls' at *
  generalize gA ns ls = ds at *
  generalize wF ns ls = rs at *
  go_enter Tryz.func21, Tryz.ntmps21
  obtain ⟨x0, x1, _⟩ := H0.out.1
  go_wp2_with fail
  refine (HWG.out _ (HN.out.step H0.out.below) (HL.out.step H0.out.below) (HV.out.step H0.out.below)).mono ?_
  rintro e w1 ⟨v1, v2, v3, v4, rfl, g1, g2, g3, g4, hb⟩
  have H1 := Lib.hid (H0.out.step hb)
  have G0 := Lib.hid (heldG w1 v1 v2 v3 v4 61)
  have B1 := Lib.hid (H1.out.below.trans (G0.out.below.mono H1.out.below.size))
  have G1 := Lib.hid (g1.step G0.out.below)
  have G2 := Lib.hid (g2.step G0.out.below)
  have G3 := Lib.hid (g3.step G0.out.below)
  have G4 := Lib.hid (g4.step G0.out.below)
  obtain ⟨A5, c5, rfl⟩ := prs_form2 g1
  obtain ⟨A6, c6, rfl⟩ := prs_form2 g2
  obtain ⟨A7, c7, rfl⟩ := faces_form g3
  obtain ⟨A8, c8, rfl⟩ := ints_form g4
  clear hb g1 g2 g3 g4 x0 x1
  obtain ⟨x0, x1, x2, x3, _⟩ := G0.out.1
  cases WG
  · have HF := Lib.hid (HBN.out (by first | rfl | trivial))
    have HFL := Lib.hid (HLN.out (by first | rfl | trivial))
    go_wp2_with fail
    rw [HF.out, HFL.out]
    exact bodyPost_ret (v := .tuple #[.slice none 0 0, .bool false]) (by simp [results, Tryz.results21, go_sem]) rfl (by unfold CwRet; exact ⟨⟨_, rfl, Ints.nil _ _⟩, B1.out⟩)
  · obtain ⟨n, rfl, hn6⟩ := HIN.out (by first | rfl | trivial)
    have HB := Lib.hid (HYB.out n rfl (by first | rfl | trivial))
    have HLL := Lib.hid (HYL.out n rfl (by first | rfl | trivial))
    have HWN := Lib.hid (HWI.out (by first | rfl | trivial) n hn6)
    have HFN := Lib.hid (HFG.out (by first | rfl | trivial) n hn6)
    have HCPN := Lib.hid (HCP.out n)
    have HPRN := Lib.hid (HPR.out n)
    clear HYB HYL HWI HFG HCP HPR
    have HFX := Lib.hid (show canB M rs.length n xs = false → finR M rs.length n xs = [] from fun h => finR_no h)
    generalize prB M rs.length n xs = PB at *
    generalize canB M rs.length n xs = CB at *
    generalize finR M rs.length n xs = FR at *
    go_wp2_with fail
    refine (HWN.out _ _ _ _ _ _ _ G1.out G2.out G3.out G4.out (HV.out.step B1.out)).mono ?_
    rintro e w2 ⟨hy, hno, hb⟩
    have B2 := Lib.hid (B1.out.trans (hb.mono B1.out.size))
    have hsz := B1.out.size
    have hsz2 := hb.size
    clear hb
    cases PB
    · obtain rfl := hno rfl
      have hc0 := HCPN.out (by first | rfl | trivial)
      have HF := Lib.hid (HB.out.trans hc0)
      have HFL := Lib.hid (HLL.out.trans (HFX.out hc0))
      clear hy hno hc0
      go_wp2_with fail
      rw [HF.out, HFL.out]
      exact bodyPost_ret (v := .tuple #[.slice none 0 0, .bool false]) (by simp [results, Tryz.results21, go_sem]) rfl (by unfold CwRet; exact ⟨⟨_, rfl, Ints.nil _ _⟩, B2.out.alloc B2.out.size _⟩)
    · obtain ⟨vb, vc, us, rfl, hcl⟩ := hy rfl
      have HP := HPRN.out.1 (by first | rfl | trivial)
      clear hy hno
      obtain ⟨ab, cb, nb, rfl⟩ : ∃ ab cb nb, vb = .slice ab nb cb := by
        obtain ⟨ab, cb, e, -⟩ := hcl.rows.form; exact ⟨ab, cb, _, e⟩
      obtain ⟨ac, cc, nc, rfl⟩ : ∃ ac cc nc, vc = .slice ac nc cc := by
        obtain ⟨ab, cb, e, -⟩ := hcl.cols.form; exact ⟨ab, cb, _, e⟩
      have C0 := Lib.hid (heldC w2 (.slice ab nb cb) (.slice ac nc cc) (.int .i64 n) 65)
      have HC2 := Lib.hid (hcl.step C0.out.below)
      have B3 := Lib.hid (B2.out.trans (C0.out.below.mono B2.out.size))
      have HFN2 := Lib.hid (HFN.out HP _ _ _ w.heap.size us hsz _ B3.out.size HC2.out)
      clear hcl HP
      obtain ⟨y0, y1, y2, _⟩ := C0.out.1
      go_wp2_with fail
      refine HFN2.out.mono ?_
      rintro e w3 ⟨⟨v, rfl, hv⟩, hb⟩
      have B4 := Lib.hid (B3.out.trans hb)
      have HV4 := Lib.hid (hv.mono (b' := w.heap.size) hsz)
      clear hb hv
      go_wp2_with fail
      rw [HB.out, HLL.out]
      exact bodyPost_ret (v := .tuple #[v, .bool CB]) (by simp [results, Tryz.results21, go_sem]) rfl (by unfold CwRet; exact ⟨⟨_, rfl, HV4.out⟩, B4.out⟩)
end Go.Proofs.YtmcbbjobjogkmabGreat

namespace Go.Proofs.YtmcbbjobjogkmabGreat
open Go.RowKit
set_option linter.unusedVariables false
set_option linter.unusedSimpArgs false

set_option maxRecDepth 100000 in
theorem cloneInts (xs : List Int) (v : Value) (w : World) (hv : Seq w v xs) (hlen : xs.length ≤ 1000000) :
    Calls Tryz.prog 47 #[v] w (IntsNew xs w) := by
  obtain ⟨i0, hi0, hz0, hz1, hz2⟩ := info_parts infoInt
  have HA := Lib.hid (fun w2 v2 (h : Seq w2 v2 xs) (g : Nat) (hg : w2.heap[g]? = some (.cells #[] 3 (0, 0))) (hB : w.heap.size ≤ g) => run_append_seq (P := Tryz.prog) (ty := 27) Tryz.underlying27 hi0 hz0 hz1 hz2 hg hB h hlen)
  clear hi0 hz0 hz1 hz2
  have HV := Lib.hid hv
  obtain ⟨A, c, rfl⟩ := seq_form2 hv
  clear hv
  have hnil := fun w => Lib.run_eql_slice_nil (P := Tryz.prog) w 27 3 A xs.length c 0 0 Tryz.underlying27
  cases A with
  | none =>
    have h0 : xs = [] := by
      by_cases hl : xs.length = 0
      · exact List.eq_nil_of_length_eq_zero hl
      · obtain ⟨b, o, hA, _⟩ := seq_at HV.out 0 (by omega)
        cases hA
    subst h0
    simp only [Option.isNone_none, List.length_nil] at hnil
    go_enter Tryz.func47, Tryz.ntmps47
    go_wp2_with fail
    go_ret
    exact ⟨_, rfl, Ints.nil _ _, Below.refl _ _⟩
  | some a =>
    simp only [Option.isNone_some] at hnil
    obtain ⟨v', w', hr, ho, hb⟩ := HA.out _ _ (HV.out.step (Below.refl _ _ |>.alloc (Nat.le_refl _) (.cells #[] 3))) w.heap.size (heap_alloc_new w _) (Nat.le_refl _)
    have HO := Lib.hid ho
    have HB := Lib.hid ((Below.refl _ _ |>.alloc (Nat.le_refl _) (.cells #[] 3)).trans (hb.mono (by simp)))
    clear ho hb
    go_enter Tryz.func47, Tryz.ntmps47
    go_wp2_with (at_builtin; refine wpList_append_run rfl _ _ 27 rfl v' w' hr ?_)
    go_wp2_with fail
    go_ret
    exact ⟨_, rfl, HO.out, HB.out⟩

set_option maxRecDepth 100000 in
set_option maxHeartbeats 1000000 in
theorem implCanFill (v1 v2 v3 v4 vx : Value) (rs : List (List Int)) (ds xs : List Int) (ns ls : List Nd) (B B2 n : Nat) (w : World) (hn : Prs w v1 ns) (hl : Prs w v2 ls) (hf : Faces w B v3 rs) (ha : Ints w B2 v4 ds) (hv : Seq w vx xs) (hk : ds.length = 2 * ls.length) (hd : ls.length ≤ 20) (hN : rs.length ≤ 13) (hxl : xs.length = rs.length) (h0 : 0 < rs.length) (hn6 : n ≤ 6) :
    Calls Tryz.prog 45 #[.agg #[v1, v2, v3, v4], .int .i64 n, vx] w (BoolIs (canB (besM ds ls.length) rs.length n xs) w) := by
  have HWN := Lib.hid (fun W (hb : Below w.heap.size w W) => implWished v1 v2 v3 v4 vx rs ds xs ns ls B B2 n W (hn.step hb) (hl.step hb) (hf.step hb) (ha.step hb) (hv.step hb) hk hd hN hxl h0 hn6)
  unfold WshRet at HWN
  have HFN := Lib.hid (fun hp vb vc Z B us hB w hBw hc => can_gen (besM ds ls.length) (besM_sym _ _) (besM_irr _ _) rs.length n hN hn6 h0 xs hxl hp vb vc Z B us hB w hBw hc)
  have HCPN := Lib.hid (fun h => can_prB (M := besM ds ls.length) (N := rs.length) (n := n) (xs := xs) (besM_sym _ _) (besM_irr _ _) h)
  have HPRN := Lib.hid (prB_iff (M := besM ds ls.length) (N := rs.length) (n := n) (xs := xs))
  generalize besM ds ls.length = M at *
  have H0 := Lib.hid (heldG w v1 v2 v3 v4 61)
  obtain ⟨A, c, rfl⟩ := prs_form2 hn
  obtain ⟨A2, c2, rfl⟩ := prs_form2 hl
  obtain ⟨A3, c3, rfl⟩ := faces_form hf
  obtain ⟨A4, c4, rfl⟩ := ints_form ha
  obtain ⟨A5, c5, rfl⟩ := seq_form2 hv
  clear hn hl hf ha hv hk hxl
  generalize prB M rs.length n xs = PB at *
  generalize canB M rs.length n xs = CB at *
  go_enter Tryz.func45, Tryz.ntmps45
  obtain ⟨x0, x1, x2, x3, _⟩ := H0.out.1
  go_wp2_with fail
  refine (HWN.out _ H0.out.below).mono ?_
  rintro e w2 ⟨hy, hno, hb⟩
  have B2 := Lib.hid (H0.out.below.trans (hb.mono H0.out.below.size))
  have hsz := H0.out.below.size
  clear hb x0 x1 x2 x3
  cases PB
  · obtain rfl := hno rfl
    obtain rfl := HCPN.out (by first | rfl | trivial)
    clear hy hno
    go_wp2_with fail
    go_ret
    exact ⟨rfl, B2.out.alloc B2.out.size _⟩
  · obtain ⟨vb, vc, us, rfl, hcl⟩ := hy rfl
    have HP := HPRN.out.1 (by first | rfl | trivial)
    clear hy hno
    obtain ⟨ab, cb, nb, rfl⟩ : ∃ ab cb nb, vb = .slice ab nb cb := by
      obtain ⟨ab, cb, e, -⟩ := hcl.rows.form; exact ⟨ab, cb, _, e⟩
    obtain ⟨ac, cc, nc, rfl⟩ : ∃ ac cc nc, vc = .slice ac nc cc := by
      obtain ⟨ab, cb, e, -⟩ := hcl.cols.form; exact ⟨ab, cb, _, e⟩
    have C0 := Lib.hid (heldC w2 (.slice ab nb cb) (.slice ac nc cc) (.int .i64 n) 65)
    have HC2 := Lib.hid (hcl.step C0.out.below)
    have B3 := Lib.hid (B2.out.trans (C0.out.below.mono B2.out.size))
    have HFN2 := Lib.hid (HFN.out HP _ _ _ w.heap.size us hsz _ B3.out.size HC2.out)
    clear hcl HP
    obtain ⟨y0, y1, y2, _⟩ := C0.out.1
    go_wp2_with fail
    refine HFN2.out.mono ?_
    rintro e w3 ⟨rfl, hb⟩
    have B4 := Lib.hid (B3.out.trans hb)
    clear hb
    go_wp2_with fail
    go_ret
    exact ⟨rfl, B4.out⟩
end Go.Proofs.YtmcbbjobjogkmabGreat

namespace Go.Proofs.YtmcbbjobjogkmabGreat
open Go.RowKit
set_option linter.unusedVariables false
set_option linter.unusedSimpArgs false

/-- Whether color c may be put on face f of the wishes. -/
noncomputable def mayB (M : Nat → Nat → Bool) (N n : Nat) (xs : List Int) (f : Nat) (c : Nat) : Bool := canB M N n (xs.set f (c : Int))

noncomputable def frcP (M : Nat → Nat → Bool) (N n : Nat) (xs : List Int) (f : Nat) : Bool := decide (atZ xs f = -1) && decide ((fltN (mayB M N n xs f) n).length = 1)

noncomputable def frcL (ns ls : List Nd) (xs : List Int) (a : Int) : List Int := if fwB ns ls xs a = true then fltN (frcP (besM (atW ns ls) ls.length) (wF ns ls).length a.toNat xs) (wF ns ls).length else []

/-- Whether a color but the one in cs was found among the first k. -/
noncomputable def fndB (M : Nat → Nat → Bool) (N n : Nat) (xs cs : List Int) (f k : Nat) : Bool := (List.range k).any fun c => !decide ((c : Int) = atZ cs f) && mayB M N n xs f c

section

variable {M : Nat → Nat → Bool} {N n : Nat} {xs cs : List Int} {f k : Nat}

theorem fndB_zero : fndB M N n xs cs f 0 = false := rfl

theorem fndB_succ : fndB M N n xs cs f (k + 1) = (fndB M N n xs cs f k || (!decide ((k : Int) = atZ cs f) && mayB M N n xs f k)) := by
  unfold fndB; rw [List.range_succ, List.any_append]; simp

theorem fndB_up {j : Nat} (hj : k ≤ j) (h : fndB M N n xs cs f k = true) : fndB M N n xs cs f j = true := by
  unfold fndB at h ⊢
  rw [List.any_eq_true] at h ⊢
  obtain ⟨c, hc, h⟩ := h
  exact ⟨c, by simp at hc ⊢; omega, h⟩

theorem one_iff {p : Nat → Bool} {c0 : Nat} (h0 : c0 < n) (hp : p c0 = true) : (fltN p n).length = 1 ↔ ∀ c, c < n → c ≠ c0 → p c = false := by
  have hm : (c0 : Int) ∈ fltN p n := (fltN_mem p n _).2 ⟨c0, rfl, h0, hp⟩
  constructor
  · intro h c hc hne
    cases e : p c
    · rfl
    · have hm2 : (c : Int) ∈ fltN p n := (fltN_mem p n _).2 ⟨c, rfl, hc, e⟩
      obtain ⟨x, hx⟩ := List.length_eq_one_iff.1 h
      rw [hx] at hm hm2
      simp at hm hm2
      omega
  · intro h
    have hall : ∀ x, x ∈ fltN p n → x = (c0 : Int) := fun x hx => by
      obtain ⟨c, rfl, hc, hpc⟩ := (fltN_mem p n _).1 hx
      by_cases e : c = c0
      · rw [e]
      · rw [h c hc e] at hpc; cases hpc
    have hasc := fltN_asc p n
    match hL : fltN p n with
    | [] => rw [hL] at hm; cases hm
    | [x] => rfl
    | x :: y :: r =>
      rw [hL] at hall hasc
      have h1 := hall x (by simp)
      have h2 := hall y (by simp)
      have := (List.pairwise_cons.1 hasc).1 y (by simp)
      omega

theorem frc_is (hsym : ∀ i j, M i j = M j i) (hirr : ∀ i, M i i = false) (hl : xs.length = N) (hc : canB M N n xs = true) (hf : f < N) (ho : atZ xs f = -1) :
    frcP M N n xs f = !fndB M N n xs (finR M N n xs) f n := by
  have hL := finK_lex hsym hirr hl hc (can_ord hsym hirr hc)
  rw [finR_yes hc]
  generalize finK M N n xs N = cs at *
  obtain ⟨c0, h1, h2⟩ := (hL.1.2 f hf).1
  have hp : mayB M N n xs f c0 = true := canB_iff.2 ⟨cs, hL.1, fun i hi hne => by
    rw [atZ_setI (by omega)] at hne ⊢
    by_cases e : i = f
    · rw [if_pos e, e, h1]
    · rw [if_neg e] at hne ⊢; exact hL.2.1 i hi hne⟩
  unfold frcP
  rw [ho]
  simp only [decide_true, Bool.true_and]
  rw [Bool.eq_iff_iff]
  simp only [decide_eq_true_eq, Bool.not_eq_true']
  rw [one_iff h2 hp]
  unfold fndB
  rw [List.any_eq_false]
  simp only [List.mem_range, h1, Bool.and_eq_true, Bool.not_eq_true', decide_eq_false_iff_not, not_and, Bool.not_eq_true]
  constructor
  · intro h c hc hne; exact h c hc (by omega)
  · intro h c hc hne; exact h c hc (by omega)

theorem frc_no (h : atZ xs f ≠ -1) : frcP M N n xs f = false := by unfold frcP; simp [h]

theorem frc_open (h : atZ xs f = -1) : frcP M N n xs f = decide ((fltN (mayB M N n xs f) n).length = 1) := by unfold frcP; simp [h]

end

theorem frcL_len (ns ls : List Nd) (xs : List Int) (a : Int) : (frcL ns ls xs a).length ≤ 20 := by
  unfold frcL
  split
  · have := fltN_len (frcP (besM (atW ns ls) ls.length) (wF ns ls).length a.toNat xs) (wF ns ls).length
    have := wF_thirteen ns ls; omega
  · simp

theorem frcL_no {ns ls : List Nd} {xs : List Int} {a : Int} (h : fwB ns ls xs a = false) : frcL ns ls xs a = [] := if_neg (by rw [h]; simp)

theorem frcL_yes {ns ls : List Nd} {xs : List Int} {a : Int} (n : Nat) (ha : a = n) (h : fwB ns ls xs a = true) : frcL ns ls xs a = fltN (frcP (besM (atW ns ls) ls.length) (wF ns ls).length n xs) (wF ns ls).length := by unfold frcL; rw [if_pos h, ha]; rfl

theorem fw_wg {ns ls : List Nd} {xs : List Int} {a : Int} (h : fwB ns ls xs a = true) : wgB ns ls xs a = true := by unfold fwB at h; simp at h; exact h.1
end Go.Proofs.YtmcbbjobjogkmabGreat

namespace Go.Proofs.YtmcbbjobjogkmabGreat
open Go.RowKit
set_option linter.unusedVariables false
set_option linter.unusedSimpArgs false

set_option maxRecDepth 100000 in
set_option maxHeartbeats 1000000 in
theorem implIsForced (v1 v2 v3 v4 vx : Value) (rs : List (List Int)) (ds xs : List Int) (ns ls : List Nd) (B B2 n f : Nat) (w : World) (hn : Prs w v1 ns) (hl : Prs w v2 ls) (hf : Faces w B v3 rs) (ha : Ints w B2 v4 ds) (hv : Seq w vx xs) (hk : ds.length = 2 * ls.length) (hd : ls.length ≤ 20) (hN : rs.length ≤ 13) (hxl : xs.length = rs.length) (hfN : f < rs.length) (hn6 : n ≤ 6) :
    Calls Tryz.prog 46 #[.agg #[v1, v2, v3, v4], .int .i64 f, .int .i64 n, vx] w (BoolIs (decide ((fltN (mayB (besM ds ls.length) rs.length n xs f) n).length = 1)) w) := by
  have HCF := Lib.hid (fun (c : Nat) vy W (hb : Below w.heap.size w W) (hy : Seq W vy (xs.set f (c : Int))) => implCanFill v1 v2 v3 v4 vy rs ds (xs.set f (c : Int)) ns ls B B2 n W (hn.step hb) (hl.step hb) (hf.step hb) (ha.step hb) hy hk hd hN (by rw [List.length_set]; exact hxl) (by omega) hn6)
  have HCL := Lib.hid (fun W (hb : Below w.heap.size w W) => cloneInts xs vx W (hv.step hb) (by omega))
  unfold IntsNew at HCL
  have HU := Lib.hid (fun k => cnt_len (mayB (besM ds ls.length) rs.length n xs f) k)
  have HBD := Lib.hid (fun k => fltN_len (mayB (besM ds ls.length) rs.length n xs f) k)
  have HZ := Lib.hid (show ((fltN (mayB (besM ds ls.length) rs.length n xs f) 0).length) = 0 from rfl)
  have HMB := Lib.hid (fun (c : Nat) => (show canB (besM ds ls.length) rs.length n (xs.set f (c : Int)) = mayB (besM ds ls.length) rs.length n xs f c from rfl))
  generalize hL : (fun k => (fltN (mayB (besM ds ls.length) rs.length n xs f) k).length) = CT at *
  have HCT := Lib.hid (fun k => (show (fltN (mayB (besM ds ls.length) rs.length n xs f) k).length = CT k from by rw [← hL])); clear hL
  replace HU := Lib.hid (fun k => by have := HU.out k; rw [HCT.out, HCT.out] at this; exact this)
  replace HBD := Lib.hid (fun k => (show CT k ≤ k from by have := HBD.out k; rw [HCT.out] at this; exact this))
  rw [HCT.out] at HZ ⊢
  clear HCT
  have HH := Lib.hid (fun (c : Nat) vy W hb hy => by have := HCF.out c vy W hb hy; rw [HMB.out] at this; exact this)
  clear HCF HMB
  unfold BoolIs at HH
  generalize mayB (besM ds ls.length) rs.length n xs f = MB at *
  have H0 := Lib.hid (heldG w v1 v2 v3 v4 61)
  obtain ⟨A, c, rfl⟩ := prs_form2 hn
  obtain ⟨A2, c2, rfl⟩ := prs_form2 hl
  obtain ⟨A3, c3, rfl⟩ := faces_form hf
  obtain ⟨A4, c4, rfl⟩ := ints_form ha
  obtain ⟨A5, c5, rfl⟩ := seq_form2 hv
  have HXL := Lib.hid hxl
  have HFN := Lib.hid hfN
  clear hn hl hf ha hv hk hxl hfN
  have HSS := Lib.hid (fun (y z : Int) => (show (xs.set f y).set f z = xs.set f z from List.set_set _))
  have HSL := Lib.hid (fun (y : Int) => (show (xs.set f y).length = xs.length from List.length_set))
  have HSE := Lib.hid (show xs.set f (atZ xs f) = xs from by
    have hfl : f < xs.length := by rw [HXL.out]; exact HFN.out
    have := List.set_getElem_self hfl
    rwa [atZ_get hfl] at this)
  go_enter Tryz.func46, Tryz.ntmps46
  obtain ⟨x0, x1, x2, x3, _⟩ := H0.out.1
  go_wp2_with fail
  refine (HCL.out _ H0.out.below).mono ?_
  rintro e w1 ⟨vy, rfl, hy, hb⟩
  have H1 := Lib.hid (H0.out.step hb)
  obtain ⟨gy, cy, rfl⟩ := hy.some_ (by rw [HXL.out]; have := HFN.out; omega)
  have HY := Lib.hid (show Ints w1 (w.heap.size + 1) (.slice (some ⟨gy, 0, none⟩) xs.length cy) (xs.set f (atZ xs f)) from by rw [HSE.out]; exact hy.mono (by simp))
  have hg := (HY.out.own gy rfl).1
  clear hb hy x0 x1 x2 x3 H0
  go_wp2_with fail
  go_loopw [10, 15] (fun vc vi wr => ∃ (k : Nat) (y : Int), k ≤ n ∧ vi = .int .i64 k ∧ vc = .int .i64 (CT k : Nat) ∧ Ints wr (w.heap.size + 1) (.slice (some ⟨gy, 0, none⟩) xs.length cy) (xs.set f y) ∧ Held w wr [(w.heap.size, 0, .slice A ns.length c), (w.heap.size, 1, .slice A2 ls.length c2), (w.heap.size, 2, .slice A3 rs.length c3), (w.heap.size, 3, .slice A4 ds.length c4)]) (fun _ vi _ => n - (intOf vi).toNat)
  case atStart => exact ⟨0, _, Nat.zero_le _, rfl, by rw [HZ.out]; rfl, HY.out, H1.out⟩
  case round =>
    clear HY H1
    obtain ⟨k, y, hk, rfl, rfl, hy, hh⟩ := hrel
    have HY := Lib.hid hy; clear hy
    have H1 := Lib.hid hh; clear hh
    obtain ⟨x0, x1, x2, x3, _⟩ := H1.out.1
    by_cases hlt : k < n
    · have q1 : (k : Int) < (n : Int) := by omega
      have q0 : (0 : Int) ≤ k := by omega
      have hfx := HFN.out
      have r0 : (0 : Int) ≤ (f : Int) := by omega
      have r1 : (f : Int) < (xs.length : Int) := by rw [HXL.out]; omega
      obtain ⟨t0, t1, t2, -, -⟩ := HY.out.at_ (j := f) (by rw [HSL.out, HXL.out]; exact hfx)
      have HY2 := Lib.hid (HY.out.set_ (HSL.out y).symm f (k : Int))
      rw [HSS.out] at HY2
      have H2 := Lib.hid (show Held w (wr.setCell ⟨gy, f, none⟩ (.int .i64 k)) _ from H1.out.setN (by refine ⟨?_, ?_, ?_, ?_, trivial⟩ <;> (simp; omega)) (by omega))
      have HC := Lib.hid (HH.out k _ _ H2.out.below HY2.out.seq)
      have HUk := Lib.hid (HU.out k)
      have hck := HBD.out k
      clear hfx
      generalize MB k = mb at *
      obtain ⟨ct, hct⟩ : ∃ ct, CT k = ct := ⟨_, rfl⟩
      rw [hct] at HUk hck ⊢
      clear hct
      go_wp2_with fail
      refine HC.out.mono ?_
      rintro e w3 ⟨rfl, hb⟩
      have H3 := Lib.hid (H2.out.step hb)
      have HY3 := Lib.hid (HY2.out.step hb)
      clear hb x0 x1 x2 x3 t0 t1 t2
      cases mb
      · have e1 := HUk.out
        rw [if_neg (by simp)] at e1
        go_wp2_with fail
        exact ⟨⟨k + 1, k, by omega, by go_num, by rw [e1], HY3.out, H3.out⟩, by simp [intOf]; omega⟩
      · have e1 := HUk.out
        rw [if_pos rfl] at e1
        go_wp2_with fail
        exact ⟨⟨k + 1, k, by omega, by go_num, by first | (rw [e1]; done) | (rw [e1]; go_num), HY3.out, H3.out⟩, by simp [intOf]; omega⟩
    · obtain rfl : k = n := by omega
      have hck := HBD.out k
      generalize CT k = ct at *
      go_wp2_with fail
      go_ret
      refine ⟨?_, H1.out.below⟩
      by_cases h1 : ct = 1
      · subst h1; rfl
      · have e1 : ((ct : Int) == 1) = false := by rw [beq_eq_false_iff_ne]; omega
        have e2 : decide (ct = 1) = false := by simp [h1]
        have e3 : decide ((ct : Int) = 1) = false := by simp; omega
        first | (rw [e1, e2]; done) | (rw [e3, e2]; done) | simp [e1, e2, e3, h1]

set_option maxRecDepth 100000 in
set_option maxHeartbeats 2000000 in
theorem implForced (ns ls : List Nd) (xs : List Int) (vn vl v : Value) (a : Int) (w : World) (hn : Prs w vn ns) (hl : Prs w vl ls) (hv : Seq w v xs) :
    Calls Tryz.prog 23 #[.agg #[vn, vl], v, .int .i64 a] w (IntsNew (frcL ns ls xs a) w) := by
  have HWG := Lib.hid (fun w h1 h2 h3 => implWishG ns ls xs vn vl v a w h1 h2 h3)
  unfold GlassL at HWG
  have HCF := Lib.hid (fun (hok : wgB ns ls xs a = true) (n : Nat) (hn : n ≤ 6) v1 v2 v3 v4 vx B w h1 h2 h3 h4 h5 => implCanFill v1 v2 v3 v4 vx (wF ns ls) (gA ns ls) xs (gN ns ls) (gL ns ls) B B n w h1 h2 h3 h4 h5 (g_len ns ls).1 (g_len ns ls).2 (wF_thirteen ns ls) (wg_list hok).2.1 (wg_list hok).2.2.1 hn)
  unfold BoolIs at HCF
  have HIF := Lib.hid (fun (hok : wgB ns ls xs a = true) (n : Nat) (hn : n ≤ 6) (f : Nat) (hf : f < (wF ns ls).length) v1 v2 v3 v4 vx B w h1 h2 h3 h4 h5 => implIsForced v1 v2 v3 v4 vx (wF ns ls) (gA ns ls) xs (gN ns ls) (gL ns ls) B B n f w h1 h2 h3 h4 h5 (g_len ns ls).1 (g_len ns ls).2 (wF_thirteen ns ls) (wg_list hok).2.1 hf hn)
  unfold BoolIs at HIF
  have HN := Lib.hid hn
  have HL := Lib.hid hl
  have HV := Lib.hid hv
  have H0 := Lib.hid (held_pair w vn vl 33)
  obtain ⟨A, c, rfl⟩ := prs_form2 hn
  obtain ⟨A2, c2, rfl⟩ := prs_form2 hl
  obtain ⟨A3, c3, rfl⟩ := seq_form2 hv
  clear hn hl hv
  have HYB := Lib.hid (fun n h1 (h2 : wgB ns ls xs a = true) => (show fwB ns ls xs a = canB (besM (gA ns ls) (gL ns ls).length) (wF ns ls).length n xs from by rw [(gA_whole (wg_list h2).1).1, (gA_whole (wg_list h2).1).2]; exact fwB_yes n h1 h2))
  have HYL := Lib.hid (fun n h1 (h2 : fwB ns ls xs a = true) => (show frcL ns ls xs a = fltN (frcP (besM (gA ns ls) (gL ns ls).length) (wF ns ls).length n xs) (wF ns ls).length from by rw [(gA_whole (wg_list (fw_wg h2)).1).1, (gA_whole (wg_list (fw_wg h2)).1).2]; exact frcL_yes n h1 h2))
  have HBN := Lib.hid (fun h => fwB_no (ns := ns) (ls := ls) (xs := xs) (a := a) h)
  have HLN := Lib.hid (fun h => frcL_no (ns := ns) (ls := ls) (xs := xs) (a := a) h)
  have HIN := Lib.hid (show wgB ns ls xs a = true → ∃ n : Nat, a = n ∧ n ≤ 6 from fun h => by have := wg_parts h; exact ⟨a.toNat, by omega, by omega⟩)
  have HXL := Lib.hid (fun h => (wg_list (ns := ns) (ls := ls) (xs := xs) (a := a) h).2.1)
  have h13 := wF_thirteen ns ls
  have HFO := Lib.hid (fun n f h => frc_open (M := besM (gA ns ls) (gL ns ls).length) (N := (wF ns ls).length) (n := n) (xs := xs) (f := f) h)
  have HFC := Lib.hid (fun n f h => frc_no (M := besM (gA ns ls) (gL ns ls).length) (N := (wF ns ls).length) (n := n) (xs := xs) (f := f) h)
  generalize fwB ns ls xs a = QB at *
  generalize frcL ns ls xs a = QL at *
  generalize wgB ns ls xs a = WG at *
  generalize besM (gA ns ls) (gL ns ls).length = M at *
  generalize gN ns ls = ns' at *
  generalize gL ns ls = ls' at *
  generalize gA ns ls = ds at *
  generalize wF ns ls = rs at *
  obtain ⟨i0, hi, hz0, hz1, hz2⟩ := info_parts infoInt
  have HI := Lib.hid (And.intro hi (And.intro hz0 (And.intro hz1 hz2))); clear hi hz0 hz1 hz2
  go_enter Tryz.func23, Tryz.ntmps23
  obtain ⟨x0, x1, _⟩ := H0.out.1
  go_wp2_with fail
  refine (HWG.out _ (HN.out.step H0.out.below) (HL.out.step H0.out.below) (HV.out.step H0.out.below)).mono ?_
  rintro e w1 ⟨v1, v2, v3, v4, rfl, g1, g2, g3, g4, hb⟩
  have H1 := Lib.hid (H0.out.step hb)
  have hs1 := H1.out.2.1.1
  have GG := Lib.hid (H1.out.new2 w1.heap.size rfl [v1, v2, v3, v4] 61)
  have G0 := Lib.hid (show Held w _ [(w1.heap.size, 0, v1), (w1.heap.size, 1, v2), (w1.heap.size, 2, v3), (w1.heap.size, 3, v4)] from GG.out.only (fun ⟨a, b, c, d, _⟩ => ⟨a, b, c, d, trivial⟩) (fun ⟨a, b, c, d, _⟩ => ⟨a, b, c, d, trivial⟩))
  have bq := below_alloc w1 (.cells #[v1, v2, v3, v4] 61)
  have G1 := Lib.hid (g1.step bq)
  have G2 := Lib.hid (g2.step bq)
  have G3 := Lib.hid (g3.step bq)
  have G4 := Lib.hid (g4.step bq)
  have HB4 := Lib.hid (fun W (h : Below (w1.alloc (.cells #[v1, v2, v3, v4] 61)).heap.size (w1.alloc (.cells #[v1, v2, v3, v4] 61)) W) => And.intro (G1.out.step h) (And.intro (G2.out.step h) (And.intro (G3.out.step h) (G4.out.step h))))
  obtain ⟨A5, c5, rfl⟩ := prs_form2 g1
  obtain ⟨A6, c6, rfl⟩ := prs_form2 g2
  obtain ⟨A7, c7, rfl⟩ := faces_form g3
  obtain ⟨A8, c8, rfl⟩ := ints_form g4
  clear hb g1 g2 g3 g4 x0 x1 bq GG H0 H1
  obtain ⟨x0, x1, x2, x3, _⟩ := G0.out.1
  cases WG
  · have HF := Lib.hid (HBN.out (by first | rfl | trivial))
    have HFL := Lib.hid (HLN.out HF.out)
    have BN := G0.out.below
    have BN := Lib.hid BN
    go_wp2_with fail
    go_ret
    exact ⟨_, rfl, by rw [HFL.out]; exact Ints.nil _ _, BN.out⟩
  · obtain ⟨n, rfl, hn6⟩ := HIN.out (by first | rfl | trivial)
    have HB := Lib.hid (HYB.out n rfl (by first | rfl | trivial))
    replace HXL := Lib.hid (HXL.out (by first | rfl | trivial))
    have HCN := Lib.hid (HCF.out (by first | rfl | trivial) n hn6)
    have HIFN := Lib.hid (HIF.out (by first | rfl | trivial) n hn6)
    have HYLN := Lib.hid (HYL.out n rfl)
    have HFON := Lib.hid (HFO.out n)
    have HFCN := Lib.hid (HFC.out n)
    clear HYB HYL HCF HIF HFO HFC HBN
    rw [← HB.out] at HCN
    generalize canB M rs.length n xs = CB at *
    go_wp2_with fail
    refine (HCN.out _ _ _ _ _ _ _ G1.out G2.out G3.out G4.out (HV.out.step G0.out.below)).mono ?_
    rintro e w2 ⟨rfl, hb⟩
    have G5 := Lib.hid (G0.out.step hb)
    have D5 := Lib.hid hb
    clear hb x0 x1 x2 x3
    cases QB
    · have HFL := Lib.hid (HLN.out (by first | rfl | trivial))
      have BN := Lib.hid G5.out.below
      go_wp2_with fail
      go_ret
      exact ⟨_, rfl, by rw [HFL.out]; exact Ints.nil _ _, BN.out⟩
    · have HQL := Lib.hid (HYLN.out (by first | rfl | trivial))
      clear HYLN HLN HB
      have HU := Lib.hid (fltN_succ (frcP M rs.length n xs))
      have HLE := Lib.hid (fltN_len (frcP M rs.length n xs))
      have HZ := Lib.hid (show fltN (frcP M rs.length n xs) 0 = [] from rfl)
      have HIK := Lib.hid (fun (f : Nat) (hf : f < rs.length) (ho : atZ xs f = -1) v1 v2 v3 v4 vx B w h1 h2 h3 h4 h5 => by have := HIFN.out f hf v1 v2 v3 v4 vx B w h1 h2 h3 h4 h5; rw [← HFON.out f ho] at this; exact this)
      clear HIFN HFON
      generalize frcP M rs.length n xs = FP at *
      generalize fltN FP = X at *
      have HO6 := Lib.hid (Ints.made w2 w2.heap.size (w1.heap.size + 1) rfl (by have := G5.out.2.1.1; omega))
      have G6 := Lib.hid (G5.out.alloc (.cells #[] 3))
      have D6 := Lib.hid (D5.out.trans ((below_alloc w2 (.cells #[] 3)).mono D5.out.size))
      clear G5 D5
      go_wp2_with fail
      go_loopw [9, 31] (fun u vi wr => ∃ k : Nat, k ≤ rs.length ∧ vi = .int .i64 k ∧ Ints wr (w1.heap.size + 1) u (X k) ∧ Below (w1.alloc (.cells #[.slice A5 ns'.length c5, .slice A6 ls'.length c6, .slice A7 rs.length c7, .slice A8 ds.length c8] 61)).heap.size (w1.alloc (.cells #[.slice A5 ns'.length c5, .slice A6 ls'.length c6, .slice A7 rs.length c7, .slice A8 ds.length c8] 61)) wr ∧ Held w wr [(w1.heap.size, 0, .slice A5 ns'.length c5), (w1.heap.size, 1, .slice A6 ls'.length c6), (w1.heap.size, 2, .slice A7 rs.length c7), (w1.heap.size, 3, .slice A8 ds.length c8)]) (fun _ vi _ => rs.length - (intOf vi).toNat)
      case atStart => exact ⟨0, Nat.zero_le _, rfl, by rw [HZ.out]; exact HO6.out, D6.out, G6.out⟩
      case round =>
        clear G6 D6 HO6
        obtain ⟨k, hk, rfl, hown, hd, hh⟩ := hrel
        have HO := Lib.hid hown; clear hown
        have HD := Lib.hid hd; clear hd
        have H1 := Lib.hid hh; clear hh
        obtain ⟨x0, x1, x2, x3, _⟩ := H1.out.1
        by_cases hlt : k < rs.length
        · have q1 : (k : Int) < (xs.length : Int) := by rw [HXL.out]; omega
          have q2 : k < xs.length := by rw [HXL.out]; omega
          have q0 : (0 : Int) ≤ k := by omega
          obtain ⟨b, o, rfl, hbl, hcs⟩ := seq_at (HV.out.step H1.out.below) k (by rw [HXL.out]; exact hlt)
          have z0 := hcs k (by rw [HXL.out]; exact hlt)
          clear hcs hbl
          have HUk := Lib.hid (HU.out k)
          have HFk := Lib.hid (HFCN.out k)
          have HIk := Lib.hid (HIK.out k hlt)
          have hl := HLE.out k
          generalize atZ xs k = x at *
          by_cases ho : x = -1
          · have HIk2 := Lib.hid (HIk.out ho)
            subst ho
            obtain ⟨k1, k2, k3, k4⟩ := HB4.out wr HD.out
            have HC := Lib.hid (HIk2.out _ _ _ _ _ _ wr k1 k2 k3 k4 (HV.out.step H1.out.below))
            clear k1 k2 k3 k4 HFk
            generalize FP k = fp at *
            go_wp2_with fail
            refine HC.out.mono ?_
            rintro e w3 ⟨rfl, hb⟩
            have H3 := Lib.hid (H1.out.step hb)
            have HO3 := Lib.hid (HO.out.step hb)
            have HD3 := Lib.hid (HD.out.trans (hb.mono HD.out.size))
            clear hb x0 x1 x2 x3 H1 HO HD
            cases fp
            · have e1 := HUk.out
              rw [if_neg (by simp)] at e1
              go_wp2_with fail
              exact ⟨⟨k + 1, by omega, by go_num, by rw [e1]; exact HO3.out, HD3.out, H3.out⟩, by simp [intOf]; omega⟩
            · have e1 := HUk.out
              rw [if_pos rfl] at e1
              have E1 := Lib.hid e1; clear e1
              have hsz : w1.heap.size + 1 ≤ w3.heap.size := by have := HD3.out.size; simpa using this
              obtain ⟨au, cu, rfl, -⟩ := HO3.out.form
              obtain ⟨hi, hz0, hz1, hz2⟩ := HI.out
              go_wp2_with (at_builtin; refine wpList_append_own _ rfl _ _ 27 rfl (w1.heap.size + 1) 3 i0 (.int .i64 0) 1 8 Tryz.underlying27 hi hz0 hz1 hz2 rfl (by decide) _ _ _ rfl (World.ownsRow.alloc HO3.out _) ⟨_, 0, none⟩ 1 1 [.int .i64 k] rfl rfl ?c1 ?c2 ?c3 ?c4 ?c5 ?_)
              try (case c1 => exact cell_one_new _ _ _)
              case c2 => simp [Value.oneCell']
              case c3 => unfold maxLen; omega
              case c4 => omega
              case c5 => first | omega | (simp <;> omega)
              intro v' w5 hown hgrow _
              have H4 := Lib.hid (H3.out.stepB (B := w1.heap.size + 1) ⟨by simp, by simp, by simp, by simp, trivial⟩ (grown_below HO3.out hsz hgrow) (by omega))
              have HO4 := Lib.hid (Ints.more hown)
              have HD4 := Lib.hid (HD3.out.trans ((grown_below HO3.out hsz hgrow).mono (by simp)))
              clear hown hgrow hi hz0 hz1 hz2
              go_wp2_with fail
              exact ⟨⟨k + 1, by omega, by go_num, by rw [E1.out]; exact HO4.out, HD4.out, H4.out⟩, by simp [intOf]; omega⟩
          · have e1 : (x == -1) = false := by rw [beq_eq_false_iff_ne]; exact ho
            have e2 : decide (x = -1) = false := by simp [ho]
            have HE := Lib.hid (show X (k + 1) = X k from by rw [HUk.out, HFk.out ho]; rfl)
            clear ho
            go_wp2_with fail
            exact ⟨⟨k + 1, by omega, by go_num, by rw [HE.out]; exact HO.out, HD.out, H1.out⟩, by simp [intOf]; omega⟩
        · have q1 : ¬ (k : Int) < (xs.length : Int) := by rw [HXL.out]; omega
          have q2 : ¬ k < xs.length := by rw [HXL.out]; omega
          obtain rfl : k = rs.length := by omega
          go_wp2_with fail
          go_ret
          exact ⟨_, rfl, by rw [HQL.out]; exact HO.out.mono (by omega), H1.out.below⟩
end Go.Proofs.YtmcbbjobjogkmabGreat

namespace Go.Proofs.YtmcbbjobjogkmabGreat
open Go.RowKit
set_option linter.unusedVariables false
set_option linter.unusedSimpArgs false

set_option maxRecDepth 100000 in
set_option maxHeartbeats 1000000 in
theorem specForced (ns ls : List Nd) (xs : List Int) (vn vl v : Value) (a : Int) (w : World) (hn : Prs w vn ns) (hl : Prs w vl ls) (hv : Seq w v xs) :
    Calls Tryz.prog 22 #[.agg #[vn, vl], v, .int .i64 a] w (IntsNew (frcL ns ls xs a) w) := by
  have HFW := Lib.hid (fun w h1 h2 h3 => specFill ns ls xs vn vl v a w h1 h2 h3)
  unfold CwRet at HFW
  have HM := Lib.hid (fun w h1 h2 (hh : wholeB ns ls = true) => specMat ns ls vn vl w h1 h2 hh)
  unfold MatNew at HM
  have HA := Lib.hid (fun (n : Nat) (hn : n ≤ 6) (ys : List Int) (hgl : ys.length = (wF ns ls).length) am cm g vg vx B w h1 h2 h3 => specSrchA (besM (atW ns ls) ls.length) (besM_sym (atW ns ls) ls.length) (wF ns ls).length n (wF_thirteen ns ls) hn am cm g ys vg hgl (wF ns ls).length [] vx B w (by simp) h1 h2 h3)
  unfold SrchRet at HA
  have HSO := Lib.hid (fun n (ys : List Int) h1 h2 => (srch_any (M := besM (atW ns ls) ls.length) (N := (wF ns ls).length) (n := n) (xs := ys) (besM_sym (atW ns ls) ls.length) (besM_irr _ _) h1 h2).1)
  have HN := Lib.hid hn
  have HL := Lib.hid hl
  have HV := Lib.hid hv
  have H00 := Lib.hid (held_pair w vn vl 33)
  obtain ⟨A, c, rfl⟩ := prs_form2 hn
  obtain ⟨A2, c2, rfl⟩ := prs_form2 hl
  obtain ⟨A3, c3, rfl⟩ := seq_form2 hv
  clear hn hl hv
  have HNO := Lib.hid (fun h => frcL_no (ns := ns) (ls := ls) (xs := xs) (a := a) h)
  have HYL := Lib.hid (fun n h1 h2 => frcL_yes (ns := ns) (ls := ls) (xs := xs) (a := a) n h1 h2)
  have HPT := Lib.hid (fun (h : fwB ns ls xs a = true) => wg_list (fw_wg h))
  have HFWL := Lib.hid (fun (n : Nat) (h1 : a = n) (h : fwB ns ls xs a = true) => (show fwL ns ls xs a = finR (besM (atW ns ls) ls.length) (wF ns ls).length n xs ∧ canB (besM (atW ns ls) ls.length) (wF ns ls).length n xs = true from ⟨fwL_yes n h1 (fw_wg h), by rw [← fwB_yes n h1 (fw_wg h)]; exact h⟩))
  have HIN := Lib.hid (show fwB ns ls xs a = true → ∃ n : Nat, a = n ∧ n ≤ 6 from fun h => by have := wg_parts (fw_wg h); exact ⟨a.toNat, by omega, by omega⟩)
  have HIS := Lib.hid (fun n f h1 h2 h3 h4 => frc_is (M := besM (atW ns ls) ls.length) (N := (wF ns ls).length) (n := n) (xs := xs) (f := f) (besM_sym (atW ns ls) ls.length) (besM_irr _ _) h1 h2 h3 h4)
  have h13 := wF_thirteen ns ls
  generalize fwB ns ls xs a = QB at *
  generalize fwL ns ls xs a = cs at *
  generalize frcL ns ls xs a = QL at *
  generalize besM (atW ns ls) ls.length = M at *
  generalize (wF ns ls).length = N at *
  generalize wholeB ns ls = wh at *
  have H0 := Lib.hid (H00.out.alloc (.cells #[] 3))
  have HX0 := Lib.hid (Ints.made (w.alloc (.cells #[.slice A ns.length c, .slice A2 ls.length c2] 33)) (w.heap.size + 1) (w.heap.size + 1) (by simp) (Nat.le_refl _))
  obtain ⟨i0, hi, hz0, hz1, hz2⟩ := info_parts infoInt
  have HI := Lib.hid (And.intro hi (And.intro hz0 (And.intro hz1 hz2))); clear hi hz0 hz1 hz2 H00
  go_enter Tryz.func22, Tryz.ntmps22
  obtain ⟨x0, x1, _⟩ := H0.out.1
  go_wp2_with fail
  refine (HFW.out _ (HN.out.step H0.out.below) (HL.out.step H0.out.below) (HV.out.step H0.out.below)).mono ?_
  rintro e w1 ⟨⟨vc, rfl, hc⟩, hb⟩
  have H1 := Lib.hid (H0.out.step hb)
  have HX1 := Lib.hid (HX0.out.step hb)
  have HC1 := Lib.hid (hc.mono (b' := 0) (Nat.zero_le _))
  have KC0 := Lib.hid (fun p e => hc.own p e)
  clear hb hc x0 x1 H0 HX0
  obtain ⟨x0, x1, _⟩ := H1.out.1
  cases QB
  · have HF := Lib.hid (HNO.out (by first | rfl | trivial))
    go_wp2_with fail
    go_ret
    exact ⟨_, rfl, by rw [HF.out]; exact HX1.out.mono (Nat.le_succ _), H1.out.below⟩
  · obtain ⟨n, rfl, hn6⟩ := HIN.out (by first | rfl | trivial)
    obtain ⟨hwh, hxl, hpos, hlow⟩ := HPT.out (by first | rfl | trivial)
    obtain ⟨hcs, hcan⟩ := HFWL.out n rfl (by first | rfl | trivial)
    have HXL := Lib.hid hxl
    have HQL := Lib.hid (HYL.out n rfl (by first | rfl | trivial))
    have HISN := Lib.hid (fun f hf ho => HIS.out n f hxl hcan hf ho)
    rw [← hcs] at HISN
    have HCSL := Lib.hid (show cs.length = N from by rw [hcs, finR_yes hcan, finK_len, hxl])
    have HLOW := Lib.hid hlow
    have HAN := Lib.hid (fun f (y : Nat) => HA.out n hn6 (xs.set f (y : Int)) (by rw [List.length_set, hxl]))
    have HSN := Lib.hid (fun f (y : Nat) => HSO.out n (xs.set f (y : Int)) (by rw [List.length_set, hxl]) (fun i hi => by
      by_cases hfx : f < xs.length
      · rw [atZ_setI hfx]
        split
        · omega
        · exact hlow i hi
      · rw [List.set_eq_of_length_le (by omega)]; exact hlow i hi))
    have HWH := Lib.hid hwh
    clear hwh hxl hpos hlow hcs hcan HPT HFWL HYL HIS HA HSO HNO HIN
    have HCAN := Lib.hid (fun f (y : Nat) => (show canB M N n (xs.set f (y : Int)) = mayB M N n xs f y from rfl))
    have HAM := Lib.hid (fun f (y : Nat) am cm g vg vx B w h1 h2 h3 => (show Calls Tryz.prog 31 #[.slice am N cm, vg, .int .i64 n, vx] w (fun e w' => (∃ v, e = .returned (.tuple #[v, .bool (mayB M N n xs f y)])) ∧ Below w.heap.size w w') from (HAN.out f y am cm g vg vx B w h1 h2 h3).mono fun e w' h => ⟨h.1.elim fun v hv => ⟨v, by rw [hv.1, HSN.out, HCAN.out]⟩, h.2⟩))
    clear HAN HSN HCAN
    have HFC := Lib.hid (fun f h => frc_no (M := M) (N := N) (n := n) (xs := xs) (f := f) h)
    have HFZ := Lib.hid (fun f => fndB_zero (M := M) (N := N) (n := n) (xs := xs) (cs := cs) (f := f))
    have HFS := Lib.hid (fun f k => fndB_succ (M := M) (N := N) (n := n) (xs := xs) (cs := cs) (f := f) (k := k))
    have HFU := Lib.hid (fun f k (hk : k ≤ n) h => fndB_up (M := M) (N := N) (n := n) (xs := xs) (cs := cs) (f := f) (k := k) (j := n) hk h)
    have HU := Lib.hid (fltN_succ (frcP M N n xs))
    have HLE := Lib.hid (fltN_len (frcP M N n xs))
    have HZ := Lib.hid (show fltN (frcP M N n xs) 0 = [] from rfl)
    generalize frcP M N n xs = FP at *
    generalize fltN FP = X at *
    generalize mayB M N n xs = MB at *
    generalize fndB M N n xs cs = FD at *
    have HSS := Lib.hid (fun f (y : Int) => (show (xs.set f y).length = xs.length from List.length_set))
    go_wp2_with fail
    refine (HM.out _ (HN.out.step H1.out.below) (HL.out.step H1.out.below) HWH.out).mono ?_
    rintro e w2 ⟨vm, g, rfl, hm, hb⟩
    have H2 := Lib.hid (H1.out.step hb)
    have HX2 := Lib.hid (show Ints w2 (w.heap.size + 1) _ (X 0) from by rw [HZ.out]; exact HX1.out.step hb)
    have HC2 := Lib.hid (HC1.out.step hb)
    have HM2 := Lib.hid (hm.mono (b' := 0) (Nat.zero_le _))
    obtain ⟨am, cm, rfl, -⟩ := hm.form
    have hbs := hb.size
    have D2 := Lib.hid H2.out.below
    clear hm hb x0 x1 H1 HX1 HC1
    obtain ⟨ac, cc, rfl, -⟩ := HC2.out.form
    rw [HCSL.out] at HC2 KC0 ⊢
    have hsb := hbs
    have KC := Lib.hid (show ∀ p, (Value.slice ac N cc).ownBlock = some p → w.heap.size + 1 < p ∧ p < w2.heap.size from fun p e => by have := KC0.out p e; simp at this; omega)
    have HK2 := Lib.hid (show ∀ p, (Value.slice (some ⟨w.heap.size + 1, 0, none⟩) 0 0).ownBlock = some p → p = w.heap.size + 1 ∨ w2.heap.size ≤ p from fun p e => by simp [Value.ownBlock] at e; omega)
    clear hsb KC0 D2 hbs
    go_wp2_with fail
    go_loopw [7, 11] (fun u vi wr => ∃ k : Nat, k ≤ N ∧ vi = .int .i64 k ∧ Ints wr (w.heap.size + 1) u (X k) ∧ Ints wr 0 (.slice ac N cc) cs ∧ MatG wr 0 (.slice am N cm) g N N M ∧ (∀ p, u.ownBlock = some p → p = w.heap.size + 1 ∨ w2.heap.size ≤ p) ∧ w2.heap.size ≤ wr.heap.size ∧ Held w wr [(w.heap.size, 0, .slice A ns.length c), (w.heap.size, 1, .slice A2 ls.length c2)]) (fun _ vi _ => N - (intOf vi).toNat)
    case atStart => exact ⟨0, Nat.zero_le _, rfl, HX2.out, HC2.out, HM2.out, HK2.out, Nat.le_refl _, H2.out⟩
    case round =>
      clear H2 HX2 HC2 HM2 HK2
      obtain ⟨k, hk, rfl, hown, hcq, hmm, hkk, hzz, hh⟩ := hrel
      have HK := Lib.hid hkk; clear hkk
      have HO := Lib.hid hown; clear hown
      have HC := Lib.hid hcq; clear hcq
      have HM := Lib.hid hmm; clear hmm
      have H1 := Lib.hid hh; clear hh
      by_cases hlt : k < N
      · have q1 : (k : Int) < (xs.length : Int) := by rw [HXL.out]; omega
        have q2 : k < xs.length := by rw [HXL.out]; omega
        have q0 : (0 : Int) ≤ k := by omega
        obtain ⟨b, o, rfl, hbl, hcs⟩ := seq_at (HV.out.step H1.out.below) k (by rw [HXL.out]; exact hlt)
        have z0 := hcs k (by rw [HXL.out]; exact hlt)
        clear hcs hbl
        have HUk := Lib.hid (HU.out k)
        have HFk := Lib.hid (HFC.out k)
        have HIk := Lib.hid (HISN.out k hlt)
        have HLk := Lib.hid (HLOW.out k hlt)
        have HAk := Lib.hid (HAM.out k)
        have HFZk := Lib.hid (HFZ.out k)
        have HFSk := Lib.hid (HFS.out k)
        have HFUk := Lib.hid (HFU.out k)
        have HSSk := Lib.hid (HSS.out k)
        have hl := HLE.out k
        have HB0 := Lib.hid H1.out.below
        generalize hxk : atZ xs k = x at *
        by_cases ho : x ≥ 0
        · have HE := Lib.hid (show X (k + 1) = X k from by rw [HUk.out, HFk.out (by omega)]; rfl)
          clear HIk HFk hxk
          go_wp2_with fail
          exact ⟨⟨k + 1, by omega, by go_num, by rw [HE.out]; exact HO.out, HC.out, HM.out, HK.out, hzz, H1.out⟩, by simp [intOf]; omega⟩
        · have hx1 : x = -1 := by have := HLk.out; omega
          subst hx1
          have HIx := Lib.hid (HIk.out (by first | rfl | trivial))
          clear HIk HFk HLk hxk
          generalize FP k = fp at *
          generalize MB k = MBk at *
          generalize FD k = FDk at *
          have HV1 := Lib.hid (HV.out.step H1.out.below)
          go_wp2_with fail
          go_loopw [12, 13] (fun vf vi wq => ∃ q : Nat, q ≤ n ∧ vi = .int .i64 q ∧ vf = .bool (FDk q) ∧ Below wr.heap.size wr wq) (fun vf vi _ => n - (intOf vi).toNat)
          case atStart => exact ⟨0, Nat.zero_le _, rfl, by rw [HFZk.out], Below.refl _ _⟩
          case round =>
            obtain ⟨q, hq, rfl, rfl, hbq⟩ := hrel
            have HBQ := Lib.hid hbq; clear hbq
            have HFU1 := Lib.hid (HFUk.out q hq)
            have HFS1 := Lib.hid (HFSk.out q)
            have HAq := Lib.hid (HAk.out q)
            have H2 := Lib.hid (H1.out.step HBQ.out)
            have HO2 := Lib.hid (HO.out.step HBQ.out)
            have HM2 := Lib.hid (HM.out.step HBQ.out)
            have HC2 := Lib.hid (HC.out.step HBQ.out)
            have HV2 := Lib.hid (HV1.out.step HBQ.out)
            by_cases hend : q < n ∧ FDk q = false
            · obtain ⟨hqn, hfd⟩ := hend
              rw [hfd] at HFS1 ⊢
              clear hfd HFU1
              have q3 : (q : Int) < (n : Int) := by omega
              have q4 : (0 : Int) ≤ q := by omega
              have q5 : (k : Int) < (N : Int) := by omega
              obtain ⟨bc, oc, hac, hbl, hcs⟩ := seq_at (show Seq wr (.slice ac cs.length cc) cs from by rw [HCSL.out]; exact HC2.out.seq) k (by rw [HCSL.out]; exact hlt)
              subst hac
              have z1 := hcs k (by rw [HCSL.out]; exact hlt)
              clear hcs hbl
              generalize atZ cs k = cx at *
              by_cases he : (q : Int) = cx
              · subst he
                have HF1 := Lib.hid (show FDk (q + 1) = false from by rw [HFS1.out]; simp)
                go_wp2_with fail
                exact ⟨⟨q + 1, by omega, by go_num, by rw [HF1.out], HBQ.out⟩, by simp [intOf]; omega⟩
              · have e1 : ((q : Int) == cx) = false := by rw [beq_eq_false_iff_ne]; exact he
                have e2 : decide ((q : Int) = cx) = false := by simp [he]
                have e3 : ((q : Int) != cx) = true := by simp [he]
                have HF1 := Lib.hid (show FDk (q + 1) = MBk q from by rw [HFS1.out, e2]; simp)
                clear HFS1 he
                generalize MBk q = mb at *
                obtain ⟨hi, hz0, hz1, hz2⟩ := HI.out
                obtain ⟨v', w', hr, ho, hbb⟩ := run_append_seq (P := Tryz.prog) (ty := 27) (B := wr.heap.size) Tryz.underlying27 hi hz0 hz1 hz2 (heap_alloc_new wr (.cells #[] 3)) (Nat.le_refl _) (HV2.out.step (below_alloc wr (.cells #[] 3))) (by rw [HXL.out]; omega)
                have HB3 := Lib.hid ((below_alloc wr (.cells #[] 3)).trans (hbb.mono (by simp)))
                obtain ⟨gf, cf, rfl⟩ := ho.some_ (by omega)
                have HO3 := Lib.hid ho
                have hgf := (ho.own gf rfl).1
                obtain ⟨t0, t1, t2, -, -⟩ := HO3.out.at_ (j := k) q2
                have HO4 := Lib.hid ((ho.set_ rfl k (q : Int)))
                clear ho hbb hi hz0 hz1 hz2
                go_wp2_with (at_builtin; refine wpList_append_run rfl _ _ 27 rfl _ w' hr ?_)
                go_wp2_with fail
                have HB5 := Lib.hid (below_setCell (p := ⟨gf, k, none⟩) (x := .int .i64 q) HB3.out hgf)
                have HM5 := Lib.hid ((HM2.out.step HB5.out).step (below_alloc (w'.setCell ⟨gf, k, none⟩ (.int .i64 q)) (.cells #[] 3)))
                have HO5 := Lib.hid (HO4.out.seq.step (below_alloc (w'.setCell ⟨gf, k, none⟩ (.int .i64 q)) (.cells #[] 3)))
                have HX5 := Lib.hid (Ints.made (w'.setCell ⟨gf, k, none⟩ (.int .i64 q)) w'.heap.size w'.heap.size (by simp) (Nat.le_refl _))
                have HB6 := Lib.hid (HB5.out.trans ((below_alloc (w'.setCell ⟨gf, k, none⟩ (.int .i64 q)) (.cells #[] 3)).mono HB5.out.size))
                refine (HAq.out am cm g _ _ _ _ HM5.out HO5.out HX5.out).mono ?_
                rintro e w6 ⟨⟨v6, rfl⟩, hb⟩
                have HB7 := Lib.hid (HBQ.out.trans ((HB6.out.trans (hb.mono HB6.out.size)).mono HBQ.out.size))
                clear hb t0 t1 t2 z0 z1
                go_wp2_with fail
                exact ⟨⟨q + 1, by omega, by go_num, by rw [HF1.out], HB7.out⟩, by simp [intOf]; omega⟩
            · by_cases hfd : FDk q = true
              · have hfn := HFU1.out hfd
                have HE := Lib.hid (show X (k + 1) = X k from by rw [HUk.out, HIx.out, hfn]; rfl)
                rw [hfd]
                clear hfd hend hfn HFS1 HAq HIx
                by_cases hqn : q < n
                · have q3 : (q : Int) < (n : Int) := by omega
                  go_wp2_with fail
                  exact ⟨⟨k + 1, by omega, by go_num, by rw [HE.out]; exact HO2.out, HC2.out, HM2.out, HK.out, Nat.le_trans hzz HBQ.out.size, H2.out⟩, by simp [intOf]; omega⟩
                · have q3 : ¬ (q : Int) < (n : Int) := by omega
                  go_wp2_with fail
                  exact ⟨⟨k + 1, by omega, by go_num, by rw [HE.out]; exact HO2.out, HC2.out, HM2.out, HK.out, Nat.le_trans hzz HBQ.out.size, H2.out⟩, by simp [intOf]; omega⟩
              · have hfd : FDk q = false := by simpa using hfd
                obtain rfl : q = n := by
                  by_cases e : q < n
                  · exact absurd ⟨e, hfd⟩ hend
                  · omega
                have HE := Lib.hid (show X (k + 1) = X k ++ [(k : Int)] from by rw [HUk.out, HIx.out, hfd]; rfl)
                rw [hfd]
                clear hfd hend HFS1 HAq HIx HFU1 z0
                have q3 : ¬ (q : Int) < (q : Int) := by omega
                have hsz : w.heap.size + 1 ≤ wr.heap.size := by have := H2.out.2.1.1; omega
                have hcz := Nat.le_trans hzz HBQ.out.size
                obtain ⟨au, cu, rfl, -⟩ := HO2.out.form
                obtain ⟨hi, hz0, hz1, hz2⟩ := HI.out
                go_wp2_with (at_builtin; refine wpList_append_own_at _ rfl _ _ 27 rfl (w.heap.size + 1) 3 i0 (.int .i64 0) 1 8 Tryz.underlying27 hi hz0 hz1 hz2 rfl (by decide) _ _ _ rfl (World.ownsRow.alloc HO2.out _) ⟨_, 0, none⟩ 1 1 [.int .i64 k] rfl rfl ?c1 ?c2 ?c3 ?c4 ?c5 ?_)
                try (case c1 => exact cell_one_new _ _ _)
                case c2 => simp [Value.oneCell']
                case c3 => unfold maxLen; omega
                case c4 => omega
                case c5 => first | omega | (simp <;> omega)
                intro v' w5 hown hgrow _ hat
                have H4 := Lib.hid (H2.out.stepB (B := w.heap.size + 1) ⟨by simp, by simp, trivial⟩ (grown_below HO2.out hsz hgrow) (by omega))
                have HO4 := Lib.hid (Ints.more hown)
                have HM4 := Lib.hid ((HM2.out.step (below_alloc wr (.cells #[.int .i64 k] 3))).grownI (HO2.out.step (below_alloc wr (.cells #[.int .i64 k] 3))) hgrow)
                have HC4 := Lib.hid ((HC2.out.step (below_alloc wr (.cells #[.int .i64 k] 3))).grown hgrow (fun p e e2 => by have h1 := HK.out p e2; have h2 := KC.out p e; omega))
                have HK4 := Lib.hid (show ∀ p, v'.ownBlock = some p → p = w.heap.size + 1 ∨ w2.heap.size ≤ p from fun p e => by
                  rcases hat with h | h
                  · rw [h] at e; exact HK.out p e
                  · rw [h] at e; simp at e; omega)
                have hz4 : w2.heap.size ≤ w5.heap.size := by have := hgrow.size; simp at this; omega
                clear hown hgrow hat hi hz0 hz1 hz2
                go_wp2_with fail
                exact ⟨⟨k + 1, by omega, by go_num, by rw [HE.out]; exact HO4.out, HC4.out, HM4.out, HK4.out, hz4, H4.out⟩, by simp [intOf]; omega⟩
      · have q1 : ¬ (k : Int) < (xs.length : Int) := by rw [HXL.out]; omega
        have q2 : ¬ k < xs.length := by rw [HXL.out]; omega
        obtain rfl : k = N := by omega
        go_wp2_with fail
        go_ret
        exact ⟨_, rfl, by rw [HQL.out]; exact HO.out.mono (Nat.le_succ _), H1.out.below⟩
end Go.Proofs.YtmcbbjobjogkmabGreat
