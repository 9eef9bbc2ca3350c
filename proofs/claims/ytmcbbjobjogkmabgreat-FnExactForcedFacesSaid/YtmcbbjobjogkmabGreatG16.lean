/-
  Several texts in one: a claim has at most 60 files.
-/
import Derived.Test.YtmcbbjobjogkmabGreatG6
import Derived.Test.YtmcbbjobjogkmabGreatG11

namespace Go.Proofs.YtmcbbjobjogkmabGreat
open Go.RowKit
set_option linter.unusedVariables false
set_option linter.unusedSimpArgs false

/-- Whether the wishes xs for a colors may be asked. -/
noncomputable def wgB (ns ls : List Nd) (xs : List Int) (a : Int) : Bool := listB ns ls (-1) 5 xs && (decide (1 ≤ a) && decide (a ≤ 6))

set_option maxRecDepth 100000 in
set_option maxHeartbeats 4000000 in
theorem implWishG (ns ls : List Nd) (xs : List Int) (vn vl v : Value) (a : Int) (w : World) (hn : Prs w vn ns) (hl : Prs w vl ls) (hv : Seq w v xs) :
    Calls Tryz.prog 43 #[.agg #[vn, vl], v, .int .i64 a] w (GlassL (wgB ns ls xs a) ns ls w) := by
  have HN := Lib.hid hn
  have HL := Lib.hid hl
  have HV := Lib.hid hv
  have H0 := Lib.hid (held_glass w vn vl 33 61)
  have HB0 := Lib.hid (show BlkN (w.heap.size + 1) 61 4 ((w.alloc (.cells #[vn, vl] 33)).alloc (.cells #[.slice none 0 0, .slice none 0 0, .slice none 0 0, .slice none 0 0] 61)) from ⟨_, by
    have := heap_alloc_new (w.alloc (.cells #[vn, vl] 33)) (.cells #[.slice none 0 0, .slice none 0 0, .slice none 0 0, .slice none 0 0] 61)
    simpa using this, rfl⟩)
  have HT := Lib.hid (fun (A1 A2 A3 A4 : Option Addr) (n1 c1 n2 c2 n3 c3 n4 c4 : Nat) W hb => implAreWishes A1 A2 A3 A4 n1 c1 n2 c2 n3 c3 n4 c4 xs v W (hv.step hb))
  unfold BoolIs at HT
  by_cases hh : wholeB ns ls = true
  · have HGY := Lib.hid (fun w h1 h2 => implGlassYes ns ls vn vl w h1 h2 hh)
    unfold GlassYes at HGY
    have HGN := Lib.hid (show gN ns ls = ns from if_pos hh)
    have HGL2 := Lib.hid (show gL ns ls = ls from if_pos hh)
    have HGA := Lib.hid (show gA ns ls = atW ns ls from if_pos hh)
    have HWF := Lib.hid (show wF ns ls = facesL ns ls from if_pos hh)
    unfold GlassL
    have HLD := Lib.hid (show listB ns ls (-1) 5 xs = (decide (xs.length = (facesL ns ls).length) && inR xs (-1) 5) from by unfold listB; rw [hh, HWF.out]; rfl)
    have HRES := Lib.hid (show wgB ns ls xs a = (listB ns ls (-1) 5 xs && (decide (1 ≤ a) && decide (a ≤ 6))) from rfl)
    generalize wgB ns ls xs a = res at *
    generalize listB ns ls (-1) 5 xs = lb at *
    generalize wF ns ls = wf at *
    generalize gA ns ls = ga at *
    generalize gN ns ls = gn at *
    generalize gL ns ls = gl at *
    generalize facesL ns ls = rs at *
    generalize atW ns ls = ds at *
    clear hh
    obtain ⟨A, c, rfl⟩ := prs_form2 hn
    obtain ⟨A2, c2, rfl⟩ := prs_form2 hl
    obtain ⟨A3, c3, rfl⟩ := seq_form2 hv
    clear hn hl hv
    go_enter Tryz.func43, Tryz.ntmps43
    go_wp2_with fail
    refine (HGY.out _ (HN.out.step H0.out.below) (HL.out.step H0.out.below)).mono ?_
    rintro e w1 ⟨vf, va, rfl, g3, g4, hb⟩
    have H1 := Lib.hid (H0.out.step hb)
    have HB1 := Lib.hid (stable_blkN _ _ _ _ _ HB0.out hb)
    have hs1 := H1.out.2.1.1
    have g3 := g3.mono (b' := w.heap.size + 1 + 1) (by simp)
    have g4 := g4.mono (b' := w.heap.size + 1 + 1) (by simp)
    obtain ⟨A7, c7, rfl⟩ := faces_form g3
    obtain ⟨A8, c8, rfl⟩ := ints_form g4
    have FI1 := Lib.hid (FI.mk g3 g4)
    have H2 := Lib.hid (H1.out.new2 w1.heap.size rfl [.slice A ns.length c, .slice A2 ls.length c2, .slice A7 rs.length c7, .slice A8 ds.length c8] 61)
    have H8 := Lib.hid (show Held w _ [(w1.heap.size, 0, .slice A ns.length c), (w1.heap.size, 1, .slice A2 ls.length c2), (w1.heap.size, 2, .slice A7 rs.length c7), (w1.heap.size, 3, .slice A8 ds.length c8)] from H2.out.only (fun ⟨a, b, c, d, _⟩ => ⟨a, b, c, d, trivial⟩) (fun ⟨a, b, c, d, _⟩ => ⟨a, b, c, d, trivial⟩))
    have bq := below_alloc w1 (.cells #[.slice A ns.length c, .slice A2 ls.length c2, .slice A7 rs.length c7, .slice A8 ds.length c8] 61)
    have HK9 := Lib.hid (stable_blkN _ _ _ _ _ HB1.out bq)
    have FI9 := Lib.hid (FI1.out.step bq)
    clear hb g3 g4 bq H1 H2 HB0 HB1 FI1 H0 HGY
    obtain ⟨x0, x1, x2, x3, _⟩ := H8.out.1
    go_wp2_with fail
    generalize w1.alloc (.cells #[.slice A ns.length c, .slice A2 ls.length c2, .slice A7 rs.length c7, .slice A8 ds.length c8] 61) = W8 at *
    replace HT := Lib.hid (fun (A1 A2 A3 A4 : Option Addr) (n1 c1 n2 c2 c3 n4 c4 : Nat) W hb => HT.out A1 A2 A3 A4 n1 c1 n2 c2 rs.length c3 n4 c4 W hb)
    generalize (decide (xs.length = rs.length) && inR xs (-1) 5) = lb2 at *
    cases lb
    · replace HRES := Lib.hid (show res = false from by rw [HRES.out]; rfl)
      obtain rfl := HLD.out
      obtain ⟨p, hp⟩ : ∃ p, decide (1 ≤ a) = p := ⟨_, rfl⟩
      obtain ⟨q, hq⟩ : ∃ q, decide (a ≤ 6) = q := ⟨_, rfl⟩
      cases p
      · cases q
        · refine regionW (fun W => ((Held _ W [(w1.heap.size, 0, .slice A ns.length c), (w1.heap.size, 1, .slice A2 ls.length c2), (w1.heap.size, 2, .slice A7 rs.length c7), (w1.heap.size, 3, .slice A8 ds.length c8)]) ∧ BlkN (w.heap.size + 1) 61 4 W) ∧ FI (w.heap.size + 1 + 1) (.slice A7 rs.length c7) rs (.slice A8 ds.length c8) ds W) (by kernel_rfl) ⟨⟨H8.out.drew, HK9.out⟩, (FI9.out).step ((Below.refl _ _).drew)⟩ ?_
          refine takeW (i := 0) (v := ?_) (Stable.and (Stable.and (Stable.held _ _) (stable_blkN (w.heap.size + 1) 61 4)) (stable_fi (w.heap.size + 1 + 1) (.slice A7 rs.length c7) rs (.slice A8 ds.length c8) ds)) rfl (by kernel_rfl) (by kernel_rfl) (by kernel_rfl) (fun _ _ _ h => h) ?_ ?_
          rotate_left
          · first | (refine Or.inl ⟨by rfl, fun W hS => detR_value (w' := W) ?_ (Below.refl _ _)⟩; obtain ⟨⟨hH, q1⟩, q2⟩ := hS; obtain ⟨x0, x1, x2, x3, _⟩ := hH.1; go_simp; first | done | with_reducible rfl) | fail
          simp only [Act.put, List.setIfInBounds_toArray, List.set_cons_zero, List.set_cons_succ]
          refine takeW (i := 1) (v := ?_) (Stable.and (Stable.and (Stable.held _ _) (stable_blkN (w.heap.size + 1) 61 4)) (stable_fi (w.heap.size + 1 + 1) (.slice A7 rs.length c7) rs (.slice A8 ds.length c8) ds)) rfl (by kernel_rfl) (by kernel_rfl) (by kernel_rfl) (fun _ _ _ h => h) ?_ ?_
          rotate_left
          · first | (refine Or.inl ⟨by rfl, fun W hS => detR_value (w' := W) ?_ (Below.refl _ _)⟩; obtain ⟨⟨hH, q1⟩, q2⟩ := hS; obtain ⟨x0, x1, x2, x3, _⟩ := hH.1; go_simp; first | done | with_reducible rfl) | fail
          simp only [Act.put, List.setIfInBounds_toArray, List.set_cons_zero, List.set_cons_succ]
          refine takeW (i := 2) (v := ?_) (Stable.and (Stable.and (Stable.held _ _) (stable_blkN (w.heap.size + 1) 61 4)) (stable_fi (w.heap.size + 1 + 1) (.slice A7 rs.length c7) rs (.slice A8 ds.length c8) ds)) rfl (by kernel_rfl) (by kernel_rfl) (by kernel_rfl) (fun _ _ _ h => h) ?_ ?_
          rotate_left
          · first | (refine Or.inl ⟨by rfl, fun W hS => detR_value (w' := W) ?_ (Below.refl _ _)⟩; obtain ⟨⟨hH, q1⟩, q2⟩ := hS; obtain ⟨x0, x1, x2, x3, _⟩ := hH.1; go_simp; first | done | with_reducible rfl) | fail
          simp only [Act.put, List.setIfInBounds_toArray, List.set_cons_zero, List.set_cons_succ]
          refine takeW (i := 3) (v := ?_) (Stable.and (Stable.and (Stable.held _ _) (stable_blkN (w.heap.size + 1) 61 4)) (stable_fi (w.heap.size + 1 + 1) (.slice A7 rs.length c7) rs (.slice A8 ds.length c8) ds)) rfl (by kernel_rfl) (by kernel_rfl) (by kernel_rfl) (fun _ _ _ h => h) ?_ ?_
          rotate_left
          · first | (refine Or.inr ⟨by rfl, ?_⟩; with_reducible rfl) | (refine Or.inl ⟨by rfl, fun W hS => detR_value (w' := W) ?_ (Below.refl _ _)⟩; obtain ⟨⟨hH, q1⟩, q2⟩ := hS; obtain ⟨x0, x1, x2, x3, _⟩ := hH.1; go_simp; first | done | with_reducible rfl) | fail
          simp only [Act.put, List.setIfInBounds_toArray, List.set_cons_zero, List.set_cons_succ]
          refine takeW (i := 4) (v := ?_) (Stable.and (Stable.and (Stable.held _ _) (stable_blkN (w.heap.size + 1) 61 4)) (stable_fi (w.heap.size + 1 + 1) (.slice A7 rs.length c7) rs (.slice A8 ds.length c8) ds)) rfl (by kernel_rfl) (by kernel_rfl) (by kernel_rfl) (fun _ _ _ h => h) ?_ ?_
          rotate_left
          · first | (refine Or.inr ⟨by rfl, ?_⟩; with_reducible rfl) | (refine Or.inl ⟨by rfl, fun W hS => detR_value (w' := W) ?_ (Below.refl _ _)⟩; obtain ⟨⟨hH, q1⟩, q2⟩ := hS; obtain ⟨x0, x1, x2, x3, _⟩ := hH.1; go_simp; first | done | with_reducible rfl) | fail
          simp only [Act.put, List.setIfInBounds_toArray, List.set_cons_zero, List.set_cons_succ]
          refine takeW (i := 5) (v := ?_) (Stable.and (Stable.and (Stable.held _ _) (stable_blkN (w.heap.size + 1) 61 4)) (stable_fi (w.heap.size + 1 + 1) (.slice A7 rs.length c7) rs (.slice A8 ds.length c8) ds)) rfl (by kernel_rfl) (by kernel_rfl) (by kernel_rfl) (fun _ _ _ h => h) ?_ ?_
          rotate_left
          · first | (refine Or.inr ⟨by rfl, ?_⟩; with_reducible rfl) | (refine Or.inl ⟨by rfl, fun W hS => ?_⟩; obtain ⟨⟨hH, q1⟩, q2⟩ := hS; refine detR_call (w' := W) (f := ?_) (args := ?_) ?_ ?_; rotate_left 2; (go_simp; (refine ⟨?_, ?_⟩ <;> with_reducible rfl)); (first | (with_reducible refine (HT.out _ _ _ _ _ _ _ _ _ _ _ _ hH.below).mono ?_) | fail); (first | (rintro e wn ⟨rfl, hb⟩; refine ⟨?_, hb⟩; with_reducible rfl) | (rintro e wn ⟨rfl, rfl⟩; refine ⟨?_, Below.refl _ _⟩; with_reducible rfl) | fail)) | fail
          simp only [Act.put, List.setIfInBounds_toArray, List.set_cons_zero, List.set_cons_succ]
          refine takeW (i := 6) (v := ?_) (Stable.and (Stable.and (Stable.held _ _) (stable_blkN (w.heap.size + 1) 61 4)) (stable_fi (w.heap.size + 1 + 1) (.slice A7 rs.length c7) rs (.slice A8 ds.length c8) ds)) rfl (by kernel_rfl) (by kernel_rfl) (by kernel_rfl) (fun _ _ _ h => h) ?_ ?_
          rotate_left
          · first | (refine Or.inl ⟨by rfl, fun W hS => detR_value (w' := W) ?_ (Below.refl _ _)⟩; obtain ⟨⟨hH, q1⟩, q2⟩ := hS; obtain ⟨x0, x1, x2, x3, _⟩ := hH.1; go_simp; first | done | with_reducible rfl) | fail
          simp only [Act.put, List.setIfInBounds_toArray, List.set_cons_zero, List.set_cons_succ]
          refine takeW (i := 7) (v := ?_) (Stable.and (Stable.and (Stable.held _ _) (stable_blkN (w.heap.size + 1) 61 4)) (stable_fi (w.heap.size + 1 + 1) (.slice A7 rs.length c7) rs (.slice A8 ds.length c8) ds)) rfl (by kernel_rfl) (by kernel_rfl) (by kernel_rfl) (fun _ _ _ h => h) ?_ ?_
          rotate_left
          · first | (refine Or.inl ⟨by rfl, fun W hS => detR_value (w' := W) ?_ (Below.refl _ _)⟩; obtain ⟨⟨hH, q1⟩, q2⟩ := hS; obtain ⟨x0, x1, x2, x3, _⟩ := hH.1; go_simp; first | done | with_reducible rfl) | fail
          simp only [Act.put, List.setIfInBounds_toArray, List.set_cons_zero, List.set_cons_succ]
          refine takeW (i := 8) (v := ?_) (Stable.and (Stable.and (Stable.held _ _) (stable_blkN (w.heap.size + 1) 61 4)) (stable_fi (w.heap.size + 1 + 1) (.slice A7 rs.length c7) rs (.slice A8 ds.length c8) ds)) rfl (by kernel_rfl) (by kernel_rfl) (by kernel_rfl) (fun _ _ _ h => h) ?_ ?_
          rotate_left
          · first | (refine Or.inr ⟨by rfl, ?_⟩; with_reducible rfl) | (refine Or.inl ⟨by rfl, fun W hS => detR_value (w' := W) ?_ (Below.refl _ _)⟩; obtain ⟨⟨hH, q1⟩, q2⟩ := hS; obtain ⟨x0, x1, x2, x3, _⟩ := hH.1; go_simp; first | done | with_reducible rfl) | fail
          simp only [Act.put, List.setIfInBounds_toArray, List.set_cons_zero, List.set_cons_succ]
          refine takeW (i := 9) (v := ?_) (Stable.and (Stable.and (Stable.held _ _) (stable_blkN (w.heap.size + 1) 61 4)) (stable_fi (w.heap.size + 1 + 1) (.slice A7 rs.length c7) rs (.slice A8 ds.length c8) ds)) rfl (by kernel_rfl) (by kernel_rfl) (by kernel_rfl) (fun _ _ _ h => h) ?_ ?_
          rotate_left
          · first | (refine Or.inr ⟨by rfl, ?_⟩; with_reducible rfl) | (refine Or.inl ⟨by rfl, fun W hS => detR_value (w' := W) ?_ (Below.refl _ _)⟩; obtain ⟨⟨hH, q1⟩, q2⟩ := hS; obtain ⟨x0, x1, x2, x3, _⟩ := hH.1; go_simp; first | done | with_reducible rfl) | fail
          simp only [Act.put, List.setIfInBounds_toArray, List.set_cons_zero, List.set_cons_succ]
          refine takeW (i := 10) (v := ?_) (Stable.and (Stable.and (Stable.held _ _) (stable_blkN (w.heap.size + 1) 61 4)) (stable_fi (w.heap.size + 1 + 1) (.slice A7 rs.length c7) rs (.slice A8 ds.length c8) ds)) rfl (by kernel_rfl) (by kernel_rfl) (by kernel_rfl) (fun _ _ _ h => h) ?_ ?_
          rotate_left
          · first | (refine Or.inl ⟨by rfl, fun W hS => detR_value (w' := W) ?_ (Below.refl _ _)⟩; obtain ⟨⟨hH, q1⟩, q2⟩ := hS; obtain ⟨x0, x1, x2, x3, _⟩ := hH.1; go_simp; first | done | with_reducible rfl) | fail
          simp only [Act.put, List.setIfInBounds_toArray, List.set_cons_zero, List.set_cons_succ]
          refine takeW (i := 11) (v := ?_) (Stable.and (Stable.and (Stable.held _ _) (stable_blkN (w.heap.size + 1) 61 4)) (stable_fi (w.heap.size + 1 + 1) (.slice A7 rs.length c7) rs (.slice A8 ds.length c8) ds)) rfl (by kernel_rfl) (by kernel_rfl) (by kernel_rfl) (fun _ _ _ h => h) ?_ ?_
          rotate_left
          · first | (refine Or.inl ⟨by rfl, fun W hS => detR_value (w' := W) ?_ (Below.refl _ _)⟩; obtain ⟨⟨hH, q1⟩, q2⟩ := hS; obtain ⟨x0, x1, x2, x3, _⟩ := hH.1; go_simp; first | done | with_reducible rfl) | fail
          simp only [Act.put, List.setIfInBounds_toArray, List.set_cons_zero, List.set_cons_succ]
          refine takeW (i := 12) (v := ?_) (Stable.and (Stable.and (Stable.held _ _) (stable_blkN (w.heap.size + 1) 61 4)) (stable_fi (w.heap.size + 1 + 1) (.slice A7 rs.length c7) rs (.slice A8 ds.length c8) ds)) rfl (by kernel_rfl) (by kernel_rfl) (by kernel_rfl) (fun _ _ _ h => h) ?_ ?_
          rotate_left
          · first | (refine Or.inr ⟨by rfl, ?_⟩; with_reducible rfl) | (refine Or.inl ⟨by rfl, fun W hS => detR_value (w' := W) ?_ (Below.refl _ _)⟩; obtain ⟨⟨hH, q1⟩, q2⟩ := hS; obtain ⟨x0, x1, x2, x3, _⟩ := hH.1; go_simp; first | done | with_reducible rfl) | fail
          simp only [Act.put, List.setIfInBounds_toArray, List.set_cons_zero, List.set_cons_succ]
          refine takeW (i := 13) (v := ?_) (Stable.and (Stable.and (Stable.held _ _) (stable_blkN (w.heap.size + 1) 61 4)) (stable_fi (w.heap.size + 1 + 1) (.slice A7 rs.length c7) rs (.slice A8 ds.length c8) ds)) rfl (by kernel_rfl) (by kernel_rfl) (by kernel_rfl) (fun _ _ _ h => h) ?_ ?_
          rotate_left
          · first | (refine Or.inr ⟨by rfl, ?_⟩; with_reducible rfl) | (refine Or.inl ⟨by rfl, fun W hS => detR_value (w' := W) ?_ (Below.refl _ _)⟩; obtain ⟨⟨hH, q1⟩, q2⟩ := hS; obtain ⟨x0, x1, x2, x3, _⟩ := hH.1; go_simp; first | done | with_reducible rfl) | fail
          simp only [Act.put, List.setIfInBounds_toArray, List.set_cons_zero, List.set_cons_succ]
          refine takeW (i := 14) (v := ?_) (Stable.and (Stable.and (Stable.held _ _) (stable_blkN (w.heap.size + 1) 61 4)) (stable_fi (w.heap.size + 1 + 1) (.slice A7 rs.length c7) rs (.slice A8 ds.length c8) ds)) rfl (by kernel_rfl) (by kernel_rfl) (by kernel_rfl) (fun _ _ _ h => h) ?_ ?_
          rotate_left
          · first | (refine Or.inl ⟨by rfl, fun W hS => detR_value (w' := W) ?_ (Below.refl _ _)⟩; obtain ⟨⟨hH, q1⟩, q2⟩ := hS; obtain ⟨x0, x1, x2, x3, _⟩ := hH.1; go_simp; first | done | with_reducible rfl) | fail
          simp only [Act.put, List.setIfInBounds_toArray, List.set_cons_zero, List.set_cons_succ]
          refine storeK (i := 15) (b := w.heap.size + 1) #[.slice A ns.length c, .slice A2 ls.length c2, .slice A7 rs.length c7, .slice A8 ds.length c8] (Stable.and (Stable.and (Stable.held _ _) (stable_blkN (w.heap.size + 1) 61 4)) (stable_fi (w.heap.size + 1 + 1) (.slice A7 rs.length c7) rs (.slice A8 ds.length c8) ds)) (fun W hS => by obtain ⟨⟨hH, q1⟩, q2⟩ := hS; exact q1) (fun W hS => by obtain ⟨⟨hH, q1⟩, q2⟩ := hS; exact ⟨⟨hH.setRowAt (by simp; omega) (Nat.le_succ _) _, q1.setRow rfl⟩, q2.setRow (Nat.lt_succ_self _) _⟩) rfl (by kernel_rfl) (by rfl) rfl (by rfl) (by rfl) rfl (by kernel_rfl) (by simp [Value.oneCell']) ?_
          simp only [Act.put, List.setIfInBounds_toArray, List.set_cons_zero, List.set_cons_succ]
          refine takeW (i := 16) (v := ?_) (Stable.and (Stable.and (Stable.and (Stable.held _ _) (stable_blkN (w.heap.size + 1) 61 4)) (stable_fi (w.heap.size + 1 + 1) (.slice A7 rs.length c7) rs (.slice A8 ds.length c8) ds)) (stable_blkIs _ _ _)) rfl (by kernel_rfl) (by kernel_rfl) (by kernel_rfl) (fun _ _ _ h => h) ?_ ?_
          rotate_left
          · first | (refine Or.inl ⟨by rfl, fun W hS => detR_value (w' := W) ?_ (Below.refl _ _)⟩; obtain ⟨⟨⟨hH, q1⟩, q2⟩, hs⟩ := hS; obtain ⟨x0, x1, x2, x3, _⟩ := hH.1; go_simp; first | done | with_reducible rfl) | fail
          simp only [Act.put, List.setIfInBounds_toArray, List.set_cons_zero, List.set_cons_succ]
          refine doneW (by kernel_rfl) fun wH7 HG => ?_
          obtain ⟨⟨⟨hH, q1⟩, q2⟩, hs⟩ := HG
          have H7 := Lib.hid hH; clear hH
          have MH7_q1 := Lib.hid q1; clear q1
          have MH7_q2 := Lib.hid q2; clear q2
          have MH7_s := Lib.hid hs; clear hs
          try clear x0 x1 x2 x3
          have r0 := (cell_of_cells (k := 0) MH7_s.out).trans (rfl : _ = some (Value.slice A ns.length c))
          have r1 := (cell_of_cells (k := 1) MH7_s.out).trans (rfl : _ = some (Value.slice A2 ls.length c2))
          have r2 := (cell_of_cells (k := 2) MH7_s.out).trans (rfl : _ = some (Value.slice A7 rs.length c7))
          have r3 := (cell_of_cells (k := 3) MH7_s.out).trans (rfl : _ = some (Value.slice A8 ds.length c8))
          go_wp2_with fail
          refine bodyPost_ret (v := .tuple #[.agg #[.slice A ns.length c, .slice A2 ls.length c2, .slice A7 rs.length c7, .slice A8 ds.length c8], .bool false]) (by simp [results, Tryz.results43, go_sem, r0, r1, r2, r3]) rfl ⟨_, _, _, _, by first | (rw [HRES.out]; done) | (rw [HRES.out]; rfl), ?_, ?_, ?_, ?_, H7.out.below⟩
          · rw [HGN.out]; exact HN.out.step H7.out.below
          · rw [HGL2.out]; exact HL.out.step H7.out.below
          · rw [HWF.out]; exact MH7_q2.out.f.mono (by omega)
          · rw [HGA.out]; exact MH7_q2.out.a.mono (by omega)
        · refine regionW (fun W => ((Held _ W [(w1.heap.size, 0, .slice A ns.length c), (w1.heap.size, 1, .slice A2 ls.length c2), (w1.heap.size, 2, .slice A7 rs.length c7), (w1.heap.size, 3, .slice A8 ds.length c8)]) ∧ BlkN (w.heap.size + 1) 61 4 W) ∧ FI (w.heap.size + 1 + 1) (.slice A7 rs.length c7) rs (.slice A8 ds.length c8) ds W) (by kernel_rfl) ⟨⟨H8.out.drew, HK9.out⟩, (FI9.out).step ((Below.refl _ _).drew)⟩ ?_
          refine takeW (i := 0) (v := ?_) (Stable.and (Stable.and (Stable.held _ _) (stable_blkN (w.heap.size + 1) 61 4)) (stable_fi (w.heap.size + 1 + 1) (.slice A7 rs.length c7) rs (.slice A8 ds.length c8) ds)) rfl (by kernel_rfl) (by kernel_rfl) (by kernel_rfl) (fun _ _ _ h => h) ?_ ?_
          rotate_left
          · first | (refine Or.inl ⟨by rfl, fun W hS => detR_value (w' := W) ?_ (Below.refl _ _)⟩; obtain ⟨⟨hH, q1⟩, q2⟩ := hS; obtain ⟨x0, x1, x2, x3, _⟩ := hH.1; go_simp; first | done | with_reducible rfl) | fail
          simp only [Act.put, List.setIfInBounds_toArray, List.set_cons_zero, List.set_cons_succ]
          refine takeW (i := 1) (v := ?_) (Stable.and (Stable.and (Stable.held _ _) (stable_blkN (w.heap.size + 1) 61 4)) (stable_fi (w.heap.size + 1 + 1) (.slice A7 rs.length c7) rs (.slice A8 ds.length c8) ds)) rfl (by kernel_rfl) (by kernel_rfl) (by kernel_rfl) (fun _ _ _ h => h) ?_ ?_
          rotate_left
          · first | (refine Or.inl ⟨by rfl, fun W hS => detR_value (w' := W) ?_ (Below.refl _ _)⟩; obtain ⟨⟨hH, q1⟩, q2⟩ := hS; obtain ⟨x0, x1, x2, x3, _⟩ := hH.1; go_simp; first | done | with_reducible rfl) | fail
          simp only [Act.put, List.setIfInBounds_toArray, List.set_cons_zero, List.set_cons_succ]
          refine takeW (i := 2) (v := ?_) (Stable.and (Stable.and (Stable.held _ _) (stable_blkN (w.heap.size + 1) 61 4)) (stable_fi (w.heap.size + 1 + 1) (.slice A7 rs.length c7) rs (.slice A8 ds.length c8) ds)) rfl (by kernel_rfl) (by kernel_rfl) (by kernel_rfl) (fun _ _ _ h => h) ?_ ?_
          rotate_left
          · first | (refine Or.inl ⟨by rfl, fun W hS => detR_value (w' := W) ?_ (Below.refl _ _)⟩; obtain ⟨⟨hH, q1⟩, q2⟩ := hS; obtain ⟨x0, x1, x2, x3, _⟩ := hH.1; go_simp; first | done | with_reducible rfl) | fail
          simp only [Act.put, List.setIfInBounds_toArray, List.set_cons_zero, List.set_cons_succ]
          refine takeW (i := 3) (v := ?_) (Stable.and (Stable.and (Stable.held _ _) (stable_blkN (w.heap.size + 1) 61 4)) (stable_fi (w.heap.size + 1 + 1) (.slice A7 rs.length c7) rs (.slice A8 ds.length c8) ds)) rfl (by kernel_rfl) (by kernel_rfl) (by kernel_rfl) (fun _ _ _ h => h) ?_ ?_
          rotate_left
          · first | (refine Or.inr ⟨by rfl, ?_⟩; with_reducible rfl) | (refine Or.inl ⟨by rfl, fun W hS => detR_value (w' := W) ?_ (Below.refl _ _)⟩; obtain ⟨⟨hH, q1⟩, q2⟩ := hS; obtain ⟨x0, x1, x2, x3, _⟩ := hH.1; go_simp; first | done | with_reducible rfl) | fail
          simp only [Act.put, List.setIfInBounds_toArray, List.set_cons_zero, List.set_cons_succ]
          refine takeW (i := 4) (v := ?_) (Stable.and (Stable.and (Stable.held _ _) (stable_blkN (w.heap.size + 1) 61 4)) (stable_fi (w.heap.size + 1 + 1) (.slice A7 rs.length c7) rs (.slice A8 ds.length c8) ds)) rfl (by kernel_rfl) (by kernel_rfl) (by kernel_rfl) (fun _ _ _ h => h) ?_ ?_
          rotate_left
          · first | (refine Or.inr ⟨by rfl, ?_⟩; with_reducible rfl) | (refine Or.inl ⟨by rfl, fun W hS => detR_value (w' := W) ?_ (Below.refl _ _)⟩; obtain ⟨⟨hH, q1⟩, q2⟩ := hS; obtain ⟨x0, x1, x2, x3, _⟩ := hH.1; go_simp; first | done | with_reducible rfl) | fail
          simp only [Act.put, List.setIfInBounds_toArray, List.set_cons_zero, List.set_cons_succ]
          refine takeW (i := 5) (v := ?_) (Stable.and (Stable.and (Stable.held _ _) (stable_blkN (w.heap.size + 1) 61 4)) (stable_fi (w.heap.size + 1 + 1) (.slice A7 rs.length c7) rs (.slice A8 ds.length c8) ds)) rfl (by kernel_rfl) (by kernel_rfl) (by kernel_rfl) (fun _ _ _ h => h) ?_ ?_
          rotate_left
          · first | (refine Or.inr ⟨by rfl, ?_⟩; with_reducible rfl) | (refine Or.inl ⟨by rfl, fun W hS => ?_⟩; obtain ⟨⟨hH, q1⟩, q2⟩ := hS; refine detR_call (w' := W) (f := ?_) (args := ?_) ?_ ?_; rotate_left 2; (go_simp; (refine ⟨?_, ?_⟩ <;> with_reducible rfl)); (first | (with_reducible refine (HT.out _ _ _ _ _ _ _ _ _ _ _ _ hH.below).mono ?_) | fail); (first | (rintro e wn ⟨rfl, hb⟩; refine ⟨?_, hb⟩; with_reducible rfl) | (rintro e wn ⟨rfl, rfl⟩; refine ⟨?_, Below.refl _ _⟩; with_reducible rfl) | fail)) | fail
          simp only [Act.put, List.setIfInBounds_toArray, List.set_cons_zero, List.set_cons_succ]
          refine takeW (i := 6) (v := ?_) (Stable.and (Stable.and (Stable.held _ _) (stable_blkN (w.heap.size + 1) 61 4)) (stable_fi (w.heap.size + 1 + 1) (.slice A7 rs.length c7) rs (.slice A8 ds.length c8) ds)) rfl (by kernel_rfl) (by kernel_rfl) (by kernel_rfl) (fun _ _ _ h => h) ?_ ?_
          rotate_left
          · first | (refine Or.inl ⟨by rfl, fun W hS => detR_value (w' := W) ?_ (Below.refl _ _)⟩; obtain ⟨⟨hH, q1⟩, q2⟩ := hS; obtain ⟨x0, x1, x2, x3, _⟩ := hH.1; go_simp; first | done | with_reducible rfl) | fail
          simp only [Act.put, List.setIfInBounds_toArray, List.set_cons_zero, List.set_cons_succ]
          refine takeW (i := 7) (v := ?_) (Stable.and (Stable.and (Stable.held _ _) (stable_blkN (w.heap.size + 1) 61 4)) (stable_fi (w.heap.size + 1 + 1) (.slice A7 rs.length c7) rs (.slice A8 ds.length c8) ds)) rfl (by kernel_rfl) (by kernel_rfl) (by kernel_rfl) (fun _ _ _ h => h) ?_ ?_
          rotate_left
          · first | (refine Or.inl ⟨by rfl, fun W hS => detR_value (w' := W) ?_ (Below.refl _ _)⟩; obtain ⟨⟨hH, q1⟩, q2⟩ := hS; obtain ⟨x0, x1, x2, x3, _⟩ := hH.1; go_simp; first | done | with_reducible rfl) | fail
          simp only [Act.put, List.setIfInBounds_toArray, List.set_cons_zero, List.set_cons_succ]
          refine takeW (i := 8) (v := ?_) (Stable.and (Stable.and (Stable.held _ _) (stable_blkN (w.heap.size + 1) 61 4)) (stable_fi (w.heap.size + 1 + 1) (.slice A7 rs.length c7) rs (.slice A8 ds.length c8) ds)) rfl (by kernel_rfl) (by kernel_rfl) (by kernel_rfl) (fun _ _ _ h => h) ?_ ?_
          rotate_left
          · first | (refine Or.inr ⟨by rfl, ?_⟩; with_reducible rfl) | (refine Or.inl ⟨by rfl, fun W hS => detR_value (w' := W) ?_ (Below.refl _ _)⟩; obtain ⟨⟨hH, q1⟩, q2⟩ := hS; obtain ⟨x0, x1, x2, x3, _⟩ := hH.1; go_simp; first | done | with_reducible rfl) | fail
          simp only [Act.put, List.setIfInBounds_toArray, List.set_cons_zero, List.set_cons_succ]
          refine takeW (i := 9) (v := ?_) (Stable.and (Stable.and (Stable.held _ _) (stable_blkN (w.heap.size + 1) 61 4)) (stable_fi (w.heap.size + 1 + 1) (.slice A7 rs.length c7) rs (.slice A8 ds.length c8) ds)) rfl (by kernel_rfl) (by kernel_rfl) (by kernel_rfl) (fun _ _ _ h => h) ?_ ?_
          rotate_left
          · first | (refine Or.inr ⟨by rfl, ?_⟩; with_reducible rfl) | (refine Or.inl ⟨by rfl, fun W hS => detR_value (w' := W) ?_ (Below.refl _ _)⟩; obtain ⟨⟨hH, q1⟩, q2⟩ := hS; obtain ⟨x0, x1, x2, x3, _⟩ := hH.1; go_simp; first | done | with_reducible rfl) | fail
          simp only [Act.put, List.setIfInBounds_toArray, List.set_cons_zero, List.set_cons_succ]
          refine takeW (i := 10) (v := ?_) (Stable.and (Stable.and (Stable.held _ _) (stable_blkN (w.heap.size + 1) 61 4)) (stable_fi (w.heap.size + 1 + 1) (.slice A7 rs.length c7) rs (.slice A8 ds.length c8) ds)) rfl (by kernel_rfl) (by kernel_rfl) (by kernel_rfl) (fun _ _ _ h => h) ?_ ?_
          rotate_left
          · first | (refine Or.inl ⟨by rfl, fun W hS => detR_value (w' := W) ?_ (Below.refl _ _)⟩; obtain ⟨⟨hH, q1⟩, q2⟩ := hS; obtain ⟨x0, x1, x2, x3, _⟩ := hH.1; go_simp; first | done | with_reducible rfl) | fail
          simp only [Act.put, List.setIfInBounds_toArray, List.set_cons_zero, List.set_cons_succ]
          refine takeW (i := 11) (v := ?_) (Stable.and (Stable.and (Stable.held _ _) (stable_blkN (w.heap.size + 1) 61 4)) (stable_fi (w.heap.size + 1 + 1) (.slice A7 rs.length c7) rs (.slice A8 ds.length c8) ds)) rfl (by kernel_rfl) (by kernel_rfl) (by kernel_rfl) (fun _ _ _ h => h) ?_ ?_
          rotate_left
          · first | (refine Or.inl ⟨by rfl, fun W hS => detR_value (w' := W) ?_ (Below.refl _ _)⟩; obtain ⟨⟨hH, q1⟩, q2⟩ := hS; obtain ⟨x0, x1, x2, x3, _⟩ := hH.1; go_simp; first | done | with_reducible rfl) | fail
          simp only [Act.put, List.setIfInBounds_toArray, List.set_cons_zero, List.set_cons_succ]
          refine takeW (i := 12) (v := ?_) (Stable.and (Stable.and (Stable.held _ _) (stable_blkN (w.heap.size + 1) 61 4)) (stable_fi (w.heap.size + 1 + 1) (.slice A7 rs.length c7) rs (.slice A8 ds.length c8) ds)) rfl (by kernel_rfl) (by kernel_rfl) (by kernel_rfl) (fun _ _ _ h => h) ?_ ?_
          rotate_left
          · first | (refine Or.inr ⟨by rfl, ?_⟩; with_reducible rfl) | (refine Or.inl ⟨by rfl, fun W hS => detR_value (w' := W) ?_ (Below.refl _ _)⟩; obtain ⟨⟨hH, q1⟩, q2⟩ := hS; obtain ⟨x0, x1, x2, x3, _⟩ := hH.1; go_simp; first | done | with_reducible rfl) | fail
          simp only [Act.put, List.setIfInBounds_toArray, List.set_cons_zero, List.set_cons_succ]
          refine takeW (i := 13) (v := ?_) (Stable.and (Stable.and (Stable.held _ _) (stable_blkN (w.heap.size + 1) 61 4)) (stable_fi (w.heap.size + 1 + 1) (.slice A7 rs.length c7) rs (.slice A8 ds.length c8) ds)) rfl (by kernel_rfl) (by kernel_rfl) (by kernel_rfl) (fun _ _ _ h => h) ?_ ?_
          rotate_left
          · first | (refine Or.inr ⟨by rfl, ?_⟩; with_reducible rfl) | (refine Or.inl ⟨by rfl, fun W hS => detR_value (w' := W) ?_ (Below.refl _ _)⟩; obtain ⟨⟨hH, q1⟩, q2⟩ := hS; obtain ⟨x0, x1, x2, x3, _⟩ := hH.1; go_simp; first | done | with_reducible rfl) | fail
          simp only [Act.put, List.setIfInBounds_toArray, List.set_cons_zero, List.set_cons_succ]
          refine takeW (i := 14) (v := ?_) (Stable.and (Stable.and (Stable.held _ _) (stable_blkN (w.heap.size + 1) 61 4)) (stable_fi (w.heap.size + 1 + 1) (.slice A7 rs.length c7) rs (.slice A8 ds.length c8) ds)) rfl (by kernel_rfl) (by kernel_rfl) (by kernel_rfl) (fun _ _ _ h => h) ?_ ?_
          rotate_left
          · first | (refine Or.inl ⟨by rfl, fun W hS => detR_value (w' := W) ?_ (Below.refl _ _)⟩; obtain ⟨⟨hH, q1⟩, q2⟩ := hS; obtain ⟨x0, x1, x2, x3, _⟩ := hH.1; go_simp; first | done | with_reducible rfl) | fail
          simp only [Act.put, List.setIfInBounds_toArray, List.set_cons_zero, List.set_cons_succ]
          refine storeK (i := 15) (b := w.heap.size + 1) #[.slice A ns.length c, .slice A2 ls.length c2, .slice A7 rs.length c7, .slice A8 ds.length c8] (Stable.and (Stable.and (Stable.held _ _) (stable_blkN (w.heap.size + 1) 61 4)) (stable_fi (w.heap.size + 1 + 1) (.slice A7 rs.length c7) rs (.slice A8 ds.length c8) ds)) (fun W hS => by obtain ⟨⟨hH, q1⟩, q2⟩ := hS; exact q1) (fun W hS => by obtain ⟨⟨hH, q1⟩, q2⟩ := hS; exact ⟨⟨hH.setRowAt (by simp; omega) (Nat.le_succ _) _, q1.setRow rfl⟩, q2.setRow (Nat.lt_succ_self _) _⟩) rfl (by kernel_rfl) (by rfl) rfl (by rfl) (by rfl) rfl (by kernel_rfl) (by simp [Value.oneCell']) ?_
          simp only [Act.put, List.setIfInBounds_toArray, List.set_cons_zero, List.set_cons_succ]
          refine takeW (i := 16) (v := ?_) (Stable.and (Stable.and (Stable.and (Stable.held _ _) (stable_blkN (w.heap.size + 1) 61 4)) (stable_fi (w.heap.size + 1 + 1) (.slice A7 rs.length c7) rs (.slice A8 ds.length c8) ds)) (stable_blkIs _ _ _)) rfl (by kernel_rfl) (by kernel_rfl) (by kernel_rfl) (fun _ _ _ h => h) ?_ ?_
          rotate_left
          · first | (refine Or.inl ⟨by rfl, fun W hS => detR_value (w' := W) ?_ (Below.refl _ _)⟩; obtain ⟨⟨⟨hH, q1⟩, q2⟩, hs⟩ := hS; obtain ⟨x0, x1, x2, x3, _⟩ := hH.1; go_simp; first | done | with_reducible rfl) | fail
          simp only [Act.put, List.setIfInBounds_toArray, List.set_cons_zero, List.set_cons_succ]
          refine doneW (by kernel_rfl) fun wH7 HG => ?_
          obtain ⟨⟨⟨hH, q1⟩, q2⟩, hs⟩ := HG
          have H7 := Lib.hid hH; clear hH
          have MH7_q1 := Lib.hid q1; clear q1
          have MH7_q2 := Lib.hid q2; clear q2
          have MH7_s := Lib.hid hs; clear hs
          try clear x0 x1 x2 x3
          have r0 := (cell_of_cells (k := 0) MH7_s.out).trans (rfl : _ = some (Value.slice A ns.length c))
          have r1 := (cell_of_cells (k := 1) MH7_s.out).trans (rfl : _ = some (Value.slice A2 ls.length c2))
          have r2 := (cell_of_cells (k := 2) MH7_s.out).trans (rfl : _ = some (Value.slice A7 rs.length c7))
          have r3 := (cell_of_cells (k := 3) MH7_s.out).trans (rfl : _ = some (Value.slice A8 ds.length c8))
          go_wp2_with fail
          refine bodyPost_ret (v := .tuple #[.agg #[.slice A ns.length c, .slice A2 ls.length c2, .slice A7 rs.length c7, .slice A8 ds.length c8], .bool false]) (by simp [results, Tryz.results43, go_sem, r0, r1, r2, r3]) rfl ⟨_, _, _, _, by first | (rw [HRES.out]; done) | (rw [HRES.out]; rfl), ?_, ?_, ?_, ?_, H7.out.below⟩
          · rw [HGN.out]; exact HN.out.step H7.out.below
          · rw [HGL2.out]; exact HL.out.step H7.out.below
          · rw [HWF.out]; exact MH7_q2.out.f.mono (by omega)
          · rw [HGA.out]; exact MH7_q2.out.a.mono (by omega)
      · cases q
        · refine regionW (fun W => ((Held _ W [(w1.heap.size, 0, .slice A ns.length c), (w1.heap.size, 1, .slice A2 ls.length c2), (w1.heap.size, 2, .slice A7 rs.length c7), (w1.heap.size, 3, .slice A8 ds.length c8)]) ∧ BlkN (w.heap.size + 1) 61 4 W) ∧ FI (w.heap.size + 1 + 1) (.slice A7 rs.length c7) rs (.slice A8 ds.length c8) ds W) (by kernel_rfl) ⟨⟨H8.out.drew, HK9.out⟩, (FI9.out).step ((Below.refl _ _).drew)⟩ ?_
          refine takeW (i := 0) (v := ?_) (Stable.and (Stable.and (Stable.held _ _) (stable_blkN (w.heap.size + 1) 61 4)) (stable_fi (w.heap.size + 1 + 1) (.slice A7 rs.length c7) rs (.slice A8 ds.length c8) ds)) rfl (by kernel_rfl) (by kernel_rfl) (by kernel_rfl) (fun _ _ _ h => h) ?_ ?_
          rotate_left
          · first | (refine Or.inl ⟨by rfl, fun W hS => detR_value (w' := W) ?_ (Below.refl _ _)⟩; obtain ⟨⟨hH, q1⟩, q2⟩ := hS; obtain ⟨x0, x1, x2, x3, _⟩ := hH.1; go_simp; first | done | with_reducible rfl) | fail
          simp only [Act.put, List.setIfInBounds_toArray, List.set_cons_zero, List.set_cons_succ]
          refine takeW (i := 1) (v := ?_) (Stable.and (Stable.and (Stable.held _ _) (stable_blkN (w.heap.size + 1) 61 4)) (stable_fi (w.heap.size + 1 + 1) (.slice A7 rs.length c7) rs (.slice A8 ds.length c8) ds)) rfl (by kernel_rfl) (by kernel_rfl) (by kernel_rfl) (fun _ _ _ h => h) ?_ ?_
          rotate_left
          · first | (refine Or.inl ⟨by rfl, fun W hS => detR_value (w' := W) ?_ (Below.refl _ _)⟩; obtain ⟨⟨hH, q1⟩, q2⟩ := hS; obtain ⟨x0, x1, x2, x3, _⟩ := hH.1; go_simp; first | done | with_reducible rfl) | fail
          simp only [Act.put, List.setIfInBounds_toArray, List.set_cons_zero, List.set_cons_succ]
          refine takeW (i := 2) (v := ?_) (Stable.and (Stable.and (Stable.held _ _) (stable_blkN (w.heap.size + 1) 61 4)) (stable_fi (w.heap.size + 1 + 1) (.slice A7 rs.length c7) rs (.slice A8 ds.length c8) ds)) rfl (by kernel_rfl) (by kernel_rfl) (by kernel_rfl) (fun _ _ _ h => h) ?_ ?_
          rotate_left
          · first | (refine Or.inl ⟨by rfl, fun W hS => detR_value (w' := W) ?_ (Below.refl _ _)⟩; obtain ⟨⟨hH, q1⟩, q2⟩ := hS; obtain ⟨x0, x1, x2, x3, _⟩ := hH.1; go_simp; first | done | with_reducible rfl) | fail
          simp only [Act.put, List.setIfInBounds_toArray, List.set_cons_zero, List.set_cons_succ]
          refine takeW (i := 3) (v := ?_) (Stable.and (Stable.and (Stable.held _ _) (stable_blkN (w.heap.size + 1) 61 4)) (stable_fi (w.heap.size + 1 + 1) (.slice A7 rs.length c7) rs (.slice A8 ds.length c8) ds)) rfl (by kernel_rfl) (by kernel_rfl) (by kernel_rfl) (fun _ _ _ h => h) ?_ ?_
          rotate_left
          · first | (refine Or.inr ⟨by rfl, ?_⟩; with_reducible rfl) | (refine Or.inl ⟨by rfl, fun W hS => detR_value (w' := W) ?_ (Below.refl _ _)⟩; obtain ⟨⟨hH, q1⟩, q2⟩ := hS; obtain ⟨x0, x1, x2, x3, _⟩ := hH.1; go_simp; first | done | with_reducible rfl) | fail
          simp only [Act.put, List.setIfInBounds_toArray, List.set_cons_zero, List.set_cons_succ]
          refine takeW (i := 4) (v := ?_) (Stable.and (Stable.and (Stable.held _ _) (stable_blkN (w.heap.size + 1) 61 4)) (stable_fi (w.heap.size + 1 + 1) (.slice A7 rs.length c7) rs (.slice A8 ds.length c8) ds)) rfl (by kernel_rfl) (by kernel_rfl) (by kernel_rfl) (fun _ _ _ h => h) ?_ ?_
          rotate_left
          · first | (refine Or.inr ⟨by rfl, ?_⟩; with_reducible rfl) | (refine Or.inl ⟨by rfl, fun W hS => detR_value (w' := W) ?_ (Below.refl _ _)⟩; obtain ⟨⟨hH, q1⟩, q2⟩ := hS; obtain ⟨x0, x1, x2, x3, _⟩ := hH.1; go_simp; first | done | with_reducible rfl) | fail
          simp only [Act.put, List.setIfInBounds_toArray, List.set_cons_zero, List.set_cons_succ]
          refine takeW (i := 5) (v := ?_) (Stable.and (Stable.and (Stable.held _ _) (stable_blkN (w.heap.size + 1) 61 4)) (stable_fi (w.heap.size + 1 + 1) (.slice A7 rs.length c7) rs (.slice A8 ds.length c8) ds)) rfl (by kernel_rfl) (by kernel_rfl) (by kernel_rfl) (fun _ _ _ h => h) ?_ ?_
          rotate_left
          · first | (refine Or.inr ⟨by rfl, ?_⟩; with_reducible rfl) | (refine Or.inl ⟨by rfl, fun W hS => ?_⟩; obtain ⟨⟨hH, q1⟩, q2⟩ := hS; refine detR_call (w' := W) (f := ?_) (args := ?_) ?_ ?_; rotate_left 2; (go_simp; (refine ⟨?_, ?_⟩ <;> with_reducible rfl)); (first | (with_reducible refine (HT.out _ _ _ _ _ _ _ _ _ _ _ _ hH.below).mono ?_) | fail); (first | (rintro e wn ⟨rfl, hb⟩; refine ⟨?_, hb⟩; with_reducible rfl) | (rintro e wn ⟨rfl, rfl⟩; refine ⟨?_, Below.refl _ _⟩; with_reducible rfl) | fail)) | fail
          simp only [Act.put, List.setIfInBounds_toArray, List.set_cons_zero, List.set_cons_succ]
          refine takeW (i := 6) (v := ?_) (Stable.and (Stable.and (Stable.held _ _) (stable_blkN (w.heap.size + 1) 61 4)) (stable_fi (w.heap.size + 1 + 1) (.slice A7 rs.length c7) rs (.slice A8 ds.length c8) ds)) rfl (by kernel_rfl) (by kernel_rfl) (by kernel_rfl) (fun _ _ _ h => h) ?_ ?_
          rotate_left
          · first | (refine Or.inl ⟨by rfl, fun W hS => detR_value (w' := W) ?_ (Below.refl _ _)⟩; obtain ⟨⟨hH, q1⟩, q2⟩ := hS; obtain ⟨x0, x1, x2, x3, _⟩ := hH.1; go_simp; first | done | with_reducible rfl) | fail
          simp only [Act.put, List.setIfInBounds_toArray, List.set_cons_zero, List.set_cons_succ]
          refine takeW (i := 7) (v := ?_) (Stable.and (Stable.and (Stable.held _ _) (stable_blkN (w.heap.size + 1) 61 4)) (stable_fi (w.heap.size + 1 + 1) (.slice A7 rs.length c7) rs (.slice A8 ds.length c8) ds)) rfl (by kernel_rfl) (by kernel_rfl) (by kernel_rfl) (fun _ _ _ h => h) ?_ ?_
          rotate_left
          · first | (refine Or.inl ⟨by rfl, fun W hS => detR_value (w' := W) ?_ (Below.refl _ _)⟩; obtain ⟨⟨hH, q1⟩, q2⟩ := hS; obtain ⟨x0, x1, x2, x3, _⟩ := hH.1; go_simp; first | done | with_reducible rfl) | fail
          simp only [Act.put, List.setIfInBounds_toArray, List.set_cons_zero, List.set_cons_succ]
          refine takeW (i := 8) (v := ?_) (Stable.and (Stable.and (Stable.held _ _) (stable_blkN (w.heap.size + 1) 61 4)) (stable_fi (w.heap.size + 1 + 1) (.slice A7 rs.length c7) rs (.slice A8 ds.length c8) ds)) rfl (by kernel_rfl) (by kernel_rfl) (by kernel_rfl) (fun _ _ _ h => h) ?_ ?_
          rotate_left
          · first | (refine Or.inr ⟨by rfl, ?_⟩; with_reducible rfl) | (refine Or.inl ⟨by rfl, fun W hS => detR_value (w' := W) ?_ (Below.refl _ _)⟩; obtain ⟨⟨hH, q1⟩, q2⟩ := hS; obtain ⟨x0, x1, x2, x3, _⟩ := hH.1; go_simp; first | done | with_reducible rfl) | fail
          simp only [Act.put, List.setIfInBounds_toArray, List.set_cons_zero, List.set_cons_succ]
          refine takeW (i := 9) (v := ?_) (Stable.and (Stable.and (Stable.held _ _) (stable_blkN (w.heap.size + 1) 61 4)) (stable_fi (w.heap.size + 1 + 1) (.slice A7 rs.length c7) rs (.slice A8 ds.length c8) ds)) rfl (by kernel_rfl) (by kernel_rfl) (by kernel_rfl) (fun _ _ _ h => h) ?_ ?_
          rotate_left
          · first | (refine Or.inr ⟨by rfl, ?_⟩; with_reducible rfl) | (refine Or.inl ⟨by rfl, fun W hS => detR_value (w' := W) ?_ (Below.refl _ _)⟩; obtain ⟨⟨hH, q1⟩, q2⟩ := hS; obtain ⟨x0, x1, x2, x3, _⟩ := hH.1; go_simp; first | done | with_reducible rfl) | fail
          simp only [Act.put, List.setIfInBounds_toArray, List.set_cons_zero, List.set_cons_succ]
          refine takeW (i := 10) (v := ?_) (Stable.and (Stable.and (Stable.held _ _) (stable_blkN (w.heap.size + 1) 61 4)) (stable_fi (w.heap.size + 1 + 1) (.slice A7 rs.length c7) rs (.slice A8 ds.length c8) ds)) rfl (by kernel_rfl) (by kernel_rfl) (by kernel_rfl) (fun _ _ _ h => h) ?_ ?_
          rotate_left
          · first | (refine Or.inl ⟨by rfl, fun W hS => detR_value (w' := W) ?_ (Below.refl _ _)⟩; obtain ⟨⟨hH, q1⟩, q2⟩ := hS; obtain ⟨x0, x1, x2, x3, _⟩ := hH.1; go_simp; first | done | with_reducible rfl) | fail
          simp only [Act.put, List.setIfInBounds_toArray, List.set_cons_zero, List.set_cons_succ]
          refine takeW (i := 11) (v := ?_) (Stable.and (Stable.and (Stable.held _ _) (stable_blkN (w.heap.size + 1) 61 4)) (stable_fi (w.heap.size + 1 + 1) (.slice A7 rs.length c7) rs (.slice A8 ds.length c8) ds)) rfl (by kernel_rfl) (by kernel_rfl) (by kernel_rfl) (fun _ _ _ h => h) ?_ ?_
          rotate_left
          · first | (refine Or.inl ⟨by rfl, fun W hS => detR_value (w' := W) ?_ (Below.refl _ _)⟩; obtain ⟨⟨hH, q1⟩, q2⟩ := hS; obtain ⟨x0, x1, x2, x3, _⟩ := hH.1; go_simp; first | done | with_reducible rfl) | fail
          simp only [Act.put, List.setIfInBounds_toArray, List.set_cons_zero, List.set_cons_succ]
          refine takeW (i := 12) (v := ?_) (Stable.and (Stable.and (Stable.held _ _) (stable_blkN (w.heap.size + 1) 61 4)) (stable_fi (w.heap.size + 1 + 1) (.slice A7 rs.length c7) rs (.slice A8 ds.length c8) ds)) rfl (by kernel_rfl) (by kernel_rfl) (by kernel_rfl) (fun _ _ _ h => h) ?_ ?_
          rotate_left
          · first | (refine Or.inr ⟨by rfl, ?_⟩; with_reducible rfl) | (refine Or.inl ⟨by rfl, fun W hS => detR_value (w' := W) ?_ (Below.refl _ _)⟩; obtain ⟨⟨hH, q1⟩, q2⟩ := hS; obtain ⟨x0, x1, x2, x3, _⟩ := hH.1; go_simp; first | done | with_reducible rfl) | fail
          simp only [Act.put, List.setIfInBounds_toArray, List.set_cons_zero, List.set_cons_succ]
          refine takeW (i := 13) (v := ?_) (Stable.and (Stable.and (Stable.held _ _) (stable_blkN (w.heap.size + 1) 61 4)) (stable_fi (w.heap.size + 1 + 1) (.slice A7 rs.length c7) rs (.slice A8 ds.length c8) ds)) rfl (by kernel_rfl) (by kernel_rfl) (by kernel_rfl) (fun _ _ _ h => h) ?_ ?_
          rotate_left
          · first | (refine Or.inr ⟨by rfl, ?_⟩; with_reducible rfl) | (refine Or.inl ⟨by rfl, fun W hS => detR_value (w' := W) ?_ (Below.refl _ _)⟩; obtain ⟨⟨hH, q1⟩, q2⟩ := hS; obtain ⟨x0, x1, x2, x3, _⟩ := hH.1; go_simp; first | done | with_reducible rfl) | fail
          simp only [Act.put, List.setIfInBounds_toArray, List.set_cons_zero, List.set_cons_succ]
          refine takeW (i := 14) (v := ?_) (Stable.and (Stable.and (Stable.held _ _) (stable_blkN (w.heap.size + 1) 61 4)) (stable_fi (w.heap.size + 1 + 1) (.slice A7 rs.length c7) rs (.slice A8 ds.length c8) ds)) rfl (by kernel_rfl) (by kernel_rfl) (by kernel_rfl) (fun _ _ _ h => h) ?_ ?_
          rotate_left
          · first | (refine Or.inl ⟨by rfl, fun W hS => detR_value (w' := W) ?_ (Below.refl _ _)⟩; obtain ⟨⟨hH, q1⟩, q2⟩ := hS; obtain ⟨x0, x1, x2, x3, _⟩ := hH.1; go_simp; first | done | with_reducible rfl) | fail
          simp only [Act.put, List.setIfInBounds_toArray, List.set_cons_zero, List.set_cons_succ]
          refine storeK (i := 15) (b := w.heap.size + 1) #[.slice A ns.length c, .slice A2 ls.length c2, .slice A7 rs.length c7, .slice A8 ds.length c8] (Stable.and (Stable.and (Stable.held _ _) (stable_blkN (w.heap.size + 1) 61 4)) (stable_fi (w.heap.size + 1 + 1) (.slice A7 rs.length c7) rs (.slice A8 ds.length c8) ds)) (fun W hS => by obtain ⟨⟨hH, q1⟩, q2⟩ := hS; exact q1) (fun W hS => by obtain ⟨⟨hH, q1⟩, q2⟩ := hS; exact ⟨⟨hH.setRowAt (by simp; omega) (Nat.le_succ _) _, q1.setRow rfl⟩, q2.setRow (Nat.lt_succ_self _) _⟩) rfl (by kernel_rfl) (by rfl) rfl (by rfl) (by rfl) rfl (by kernel_rfl) (by simp [Value.oneCell']) ?_
          simp only [Act.put, List.setIfInBounds_toArray, List.set_cons_zero, List.set_cons_succ]
          refine takeW (i := 16) (v := ?_) (Stable.and (Stable.and (Stable.and (Stable.held _ _) (stable_blkN (w.heap.size + 1) 61 4)) (stable_fi (w.heap.size + 1 + 1) (.slice A7 rs.length c7) rs (.slice A8 ds.length c8) ds)) (stable_blkIs _ _ _)) rfl (by kernel_rfl) (by kernel_rfl) (by kernel_rfl) (fun _ _ _ h => h) ?_ ?_
          rotate_left
          · first | (refine Or.inl ⟨by rfl, fun W hS => detR_value (w' := W) ?_ (Below.refl _ _)⟩; obtain ⟨⟨⟨hH, q1⟩, q2⟩, hs⟩ := hS; obtain ⟨x0, x1, x2, x3, _⟩ := hH.1; go_simp; first | done | with_reducible rfl) | fail
          simp only [Act.put, List.setIfInBounds_toArray, List.set_cons_zero, List.set_cons_succ]
          refine doneW (by kernel_rfl) fun wH7 HG => ?_
          obtain ⟨⟨⟨hH, q1⟩, q2⟩, hs⟩ := HG
          have H7 := Lib.hid hH; clear hH
          have MH7_q1 := Lib.hid q1; clear q1
          have MH7_q2 := Lib.hid q2; clear q2
          have MH7_s := Lib.hid hs; clear hs
          try clear x0 x1 x2 x3
          have r0 := (cell_of_cells (k := 0) MH7_s.out).trans (rfl : _ = some (Value.slice A ns.length c))
          have r1 := (cell_of_cells (k := 1) MH7_s.out).trans (rfl : _ = some (Value.slice A2 ls.length c2))
          have r2 := (cell_of_cells (k := 2) MH7_s.out).trans (rfl : _ = some (Value.slice A7 rs.length c7))
          have r3 := (cell_of_cells (k := 3) MH7_s.out).trans (rfl : _ = some (Value.slice A8 ds.length c8))
          go_wp2_with fail
          refine bodyPost_ret (v := .tuple #[.agg #[.slice A ns.length c, .slice A2 ls.length c2, .slice A7 rs.length c7, .slice A8 ds.length c8], .bool false]) (by simp [results, Tryz.results43, go_sem, r0, r1, r2, r3]) rfl ⟨_, _, _, _, by first | (rw [HRES.out]; done) | (rw [HRES.out]; rfl), ?_, ?_, ?_, ?_, H7.out.below⟩
          · rw [HGN.out]; exact HN.out.step H7.out.below
          · rw [HGL2.out]; exact HL.out.step H7.out.below
          · rw [HWF.out]; exact MH7_q2.out.f.mono (by omega)
          · rw [HGA.out]; exact MH7_q2.out.a.mono (by omega)
        · refine regionW (fun W => ((Held _ W [(w1.heap.size, 0, .slice A ns.length c), (w1.heap.size, 1, .slice A2 ls.length c2), (w1.heap.size, 2, .slice A7 rs.length c7), (w1.heap.size, 3, .slice A8 ds.length c8)]) ∧ BlkN (w.heap.size + 1) 61 4 W) ∧ FI (w.heap.size + 1 + 1) (.slice A7 rs.length c7) rs (.slice A8 ds.length c8) ds W) (by kernel_rfl) ⟨⟨H8.out.drew, HK9.out⟩, (FI9.out).step ((Below.refl _ _).drew)⟩ ?_
          refine takeW (i := 0) (v := ?_) (Stable.and (Stable.and (Stable.held _ _) (stable_blkN (w.heap.size + 1) 61 4)) (stable_fi (w.heap.size + 1 + 1) (.slice A7 rs.length c7) rs (.slice A8 ds.length c8) ds)) rfl (by kernel_rfl) (by kernel_rfl) (by kernel_rfl) (fun _ _ _ h => h) ?_ ?_
          rotate_left
          · first | (refine Or.inl ⟨by rfl, fun W hS => detR_value (w' := W) ?_ (Below.refl _ _)⟩; obtain ⟨⟨hH, q1⟩, q2⟩ := hS; obtain ⟨x0, x1, x2, x3, _⟩ := hH.1; go_simp; first | done | with_reducible rfl) | fail
          simp only [Act.put, List.setIfInBounds_toArray, List.set_cons_zero, List.set_cons_succ]
          refine takeW (i := 1) (v := ?_) (Stable.and (Stable.and (Stable.held _ _) (stable_blkN (w.heap.size + 1) 61 4)) (stable_fi (w.heap.size + 1 + 1) (.slice A7 rs.length c7) rs (.slice A8 ds.length c8) ds)) rfl (by kernel_rfl) (by kernel_rfl) (by kernel_rfl) (fun _ _ _ h => h) ?_ ?_
          rotate_left
          · first | (refine Or.inl ⟨by rfl, fun W hS => detR_value (w' := W) ?_ (Below.refl _ _)⟩; obtain ⟨⟨hH, q1⟩, q2⟩ := hS; obtain ⟨x0, x1, x2, x3, _⟩ := hH.1; go_simp; first | done | with_reducible rfl) | fail
          simp only [Act.put, List.setIfInBounds_toArray, List.set_cons_zero, List.set_cons_succ]
          refine takeW (i := 2) (v := ?_) (Stable.and (Stable.and (Stable.held _ _) (stable_blkN (w.heap.size + 1) 61 4)) (stable_fi (w.heap.size + 1 + 1) (.slice A7 rs.length c7) rs (.slice A8 ds.length c8) ds)) rfl (by kernel_rfl) (by kernel_rfl) (by kernel_rfl) (fun _ _ _ h => h) ?_ ?_
          rotate_left
          · first | (refine Or.inl ⟨by rfl, fun W hS => detR_value (w' := W) ?_ (Below.refl _ _)⟩; obtain ⟨⟨hH, q1⟩, q2⟩ := hS; obtain ⟨x0, x1, x2, x3, _⟩ := hH.1; go_simp; first | done | with_reducible rfl) | fail
          simp only [Act.put, List.setIfInBounds_toArray, List.set_cons_zero, List.set_cons_succ]
          refine takeW (i := 3) (v := ?_) (Stable.and (Stable.and (Stable.held _ _) (stable_blkN (w.heap.size + 1) 61 4)) (stable_fi (w.heap.size + 1 + 1) (.slice A7 rs.length c7) rs (.slice A8 ds.length c8) ds)) rfl (by kernel_rfl) (by kernel_rfl) (by kernel_rfl) (fun _ _ _ h => h) ?_ ?_
          rotate_left
          · first | (refine Or.inr ⟨by rfl, ?_⟩; with_reducible rfl) | (refine Or.inl ⟨by rfl, fun W hS => detR_value (w' := W) ?_ (Below.refl _ _)⟩; obtain ⟨⟨hH, q1⟩, q2⟩ := hS; obtain ⟨x0, x1, x2, x3, _⟩ := hH.1; go_simp; first | done | with_reducible rfl) | fail
          simp only [Act.put, List.setIfInBounds_toArray, List.set_cons_zero, List.set_cons_succ]
          refine takeW (i := 4) (v := ?_) (Stable.and (Stable.and (Stable.held _ _) (stable_blkN (w.heap.size + 1) 61 4)) (stable_fi (w.heap.size + 1 + 1) (.slice A7 rs.length c7) rs (.slice A8 ds.length c8) ds)) rfl (by kernel_rfl) (by kernel_rfl) (by kernel_rfl) (fun _ _ _ h => h) ?_ ?_
          rotate_left
          · first | (refine Or.inr ⟨by rfl, ?_⟩; with_reducible rfl) | (refine Or.inl ⟨by rfl, fun W hS => detR_value (w' := W) ?_ (Below.refl _ _)⟩; obtain ⟨⟨hH, q1⟩, q2⟩ := hS; obtain ⟨x0, x1, x2, x3, _⟩ := hH.1; go_simp; first | done | with_reducible rfl) | fail
          simp only [Act.put, List.setIfInBounds_toArray, List.set_cons_zero, List.set_cons_succ]
          refine takeW (i := 5) (v := ?_) (Stable.and (Stable.and (Stable.held _ _) (stable_blkN (w.heap.size + 1) 61 4)) (stable_fi (w.heap.size + 1 + 1) (.slice A7 rs.length c7) rs (.slice A8 ds.length c8) ds)) rfl (by kernel_rfl) (by kernel_rfl) (by kernel_rfl) (fun _ _ _ h => h) ?_ ?_
          rotate_left
          · first | (refine Or.inr ⟨by rfl, ?_⟩; with_reducible rfl) | (refine Or.inl ⟨by rfl, fun W hS => ?_⟩; obtain ⟨⟨hH, q1⟩, q2⟩ := hS; refine detR_call (w' := W) (f := ?_) (args := ?_) ?_ ?_; rotate_left 2; (go_simp; (refine ⟨?_, ?_⟩ <;> with_reducible rfl)); (first | (with_reducible refine (HT.out _ _ _ _ _ _ _ _ _ _ _ _ hH.below).mono ?_) | fail); (first | (rintro e wn ⟨rfl, hb⟩; refine ⟨?_, hb⟩; with_reducible rfl) | (rintro e wn ⟨rfl, rfl⟩; refine ⟨?_, Below.refl _ _⟩; with_reducible rfl) | fail)) | fail
          simp only [Act.put, List.setIfInBounds_toArray, List.set_cons_zero, List.set_cons_succ]
          refine takeW (i := 6) (v := ?_) (Stable.and (Stable.and (Stable.held _ _) (stable_blkN (w.heap.size + 1) 61 4)) (stable_fi (w.heap.size + 1 + 1) (.slice A7 rs.length c7) rs (.slice A8 ds.length c8) ds)) rfl (by kernel_rfl) (by kernel_rfl) (by kernel_rfl) (fun _ _ _ h => h) ?_ ?_
          rotate_left
          · first | (refine Or.inl ⟨by rfl, fun W hS => detR_value (w' := W) ?_ (Below.refl _ _)⟩; obtain ⟨⟨hH, q1⟩, q2⟩ := hS; obtain ⟨x0, x1, x2, x3, _⟩ := hH.1; go_simp; first | done | with_reducible rfl) | fail
          simp only [Act.put, List.setIfInBounds_toArray, List.set_cons_zero, List.set_cons_succ]
          refine takeW (i := 7) (v := ?_) (Stable.and (Stable.and (Stable.held _ _) (stable_blkN (w.heap.size + 1) 61 4)) (stable_fi (w.heap.size + 1 + 1) (.slice A7 rs.length c7) rs (.slice A8 ds.length c8) ds)) rfl (by kernel_rfl) (by kernel_rfl) (by kernel_rfl) (fun _ _ _ h => h) ?_ ?_
          rotate_left
          · first | (refine Or.inl ⟨by rfl, fun W hS => detR_value (w' := W) ?_ (Below.refl _ _)⟩; obtain ⟨⟨hH, q1⟩, q2⟩ := hS; obtain ⟨x0, x1, x2, x3, _⟩ := hH.1; go_simp; first | done | with_reducible rfl) | fail
          simp only [Act.put, List.setIfInBounds_toArray, List.set_cons_zero, List.set_cons_succ]
          refine takeW (i := 8) (v := ?_) (Stable.and (Stable.and (Stable.held _ _) (stable_blkN (w.heap.size + 1) 61 4)) (stable_fi (w.heap.size + 1 + 1) (.slice A7 rs.length c7) rs (.slice A8 ds.length c8) ds)) rfl (by kernel_rfl) (by kernel_rfl) (by kernel_rfl) (fun _ _ _ h => h) ?_ ?_
          rotate_left
          · first | (refine Or.inr ⟨by rfl, ?_⟩; with_reducible rfl) | (refine Or.inl ⟨by rfl, fun W hS => detR_value (w' := W) ?_ (Below.refl _ _)⟩; obtain ⟨⟨hH, q1⟩, q2⟩ := hS; obtain ⟨x0, x1, x2, x3, _⟩ := hH.1; go_simp; first | done | with_reducible rfl) | fail
          simp only [Act.put, List.setIfInBounds_toArray, List.set_cons_zero, List.set_cons_succ]
          refine takeW (i := 9) (v := ?_) (Stable.and (Stable.and (Stable.held _ _) (stable_blkN (w.heap.size + 1) 61 4)) (stable_fi (w.heap.size + 1 + 1) (.slice A7 rs.length c7) rs (.slice A8 ds.length c8) ds)) rfl (by kernel_rfl) (by kernel_rfl) (by kernel_rfl) (fun _ _ _ h => h) ?_ ?_
          rotate_left
          · first | (refine Or.inr ⟨by rfl, ?_⟩; with_reducible rfl) | (refine Or.inl ⟨by rfl, fun W hS => detR_value (w' := W) ?_ (Below.refl _ _)⟩; obtain ⟨⟨hH, q1⟩, q2⟩ := hS; obtain ⟨x0, x1, x2, x3, _⟩ := hH.1; go_simp; first | done | with_reducible rfl) | fail
          simp only [Act.put, List.setIfInBounds_toArray, List.set_cons_zero, List.set_cons_succ]
          refine takeW (i := 10) (v := ?_) (Stable.and (Stable.and (Stable.held _ _) (stable_blkN (w.heap.size + 1) 61 4)) (stable_fi (w.heap.size + 1 + 1) (.slice A7 rs.length c7) rs (.slice A8 ds.length c8) ds)) rfl (by kernel_rfl) (by kernel_rfl) (by kernel_rfl) (fun _ _ _ h => h) ?_ ?_
          rotate_left
          · first | (refine Or.inl ⟨by rfl, fun W hS => detR_value (w' := W) ?_ (Below.refl _ _)⟩; obtain ⟨⟨hH, q1⟩, q2⟩ := hS; obtain ⟨x0, x1, x2, x3, _⟩ := hH.1; go_simp; first | done | with_reducible rfl) | fail
          simp only [Act.put, List.setIfInBounds_toArray, List.set_cons_zero, List.set_cons_succ]
          refine takeW (i := 11) (v := ?_) (Stable.and (Stable.and (Stable.held _ _) (stable_blkN (w.heap.size + 1) 61 4)) (stable_fi (w.heap.size + 1 + 1) (.slice A7 rs.length c7) rs (.slice A8 ds.length c8) ds)) rfl (by kernel_rfl) (by kernel_rfl) (by kernel_rfl) (fun _ _ _ h => h) ?_ ?_
          rotate_left
          · first | (refine Or.inl ⟨by rfl, fun W hS => detR_value (w' := W) ?_ (Below.refl _ _)⟩; obtain ⟨⟨hH, q1⟩, q2⟩ := hS; obtain ⟨x0, x1, x2, x3, _⟩ := hH.1; go_simp; first | done | with_reducible rfl) | fail
          simp only [Act.put, List.setIfInBounds_toArray, List.set_cons_zero, List.set_cons_succ]
          refine takeW (i := 12) (v := ?_) (Stable.and (Stable.and (Stable.held _ _) (stable_blkN (w.heap.size + 1) 61 4)) (stable_fi (w.heap.size + 1 + 1) (.slice A7 rs.length c7) rs (.slice A8 ds.length c8) ds)) rfl (by kernel_rfl) (by kernel_rfl) (by kernel_rfl) (fun _ _ _ h => h) ?_ ?_
          rotate_left
          · first | (refine Or.inr ⟨by rfl, ?_⟩; with_reducible rfl) | (refine Or.inl ⟨by rfl, fun W hS => detR_value (w' := W) ?_ (Below.refl _ _)⟩; obtain ⟨⟨hH, q1⟩, q2⟩ := hS; obtain ⟨x0, x1, x2, x3, _⟩ := hH.1; go_simp; first | done | with_reducible rfl) | fail
          simp only [Act.put, List.setIfInBounds_toArray, List.set_cons_zero, List.set_cons_succ]
          refine takeW (i := 13) (v := ?_) (Stable.and (Stable.and (Stable.held _ _) (stable_blkN (w.heap.size + 1) 61 4)) (stable_fi (w.heap.size + 1 + 1) (.slice A7 rs.length c7) rs (.slice A8 ds.length c8) ds)) rfl (by kernel_rfl) (by kernel_rfl) (by kernel_rfl) (fun _ _ _ h => h) ?_ ?_
          rotate_left
          · first | (refine Or.inr ⟨by rfl, ?_⟩; with_reducible rfl) | (refine Or.inl ⟨by rfl, fun W hS => detR_value (w' := W) ?_ (Below.refl _ _)⟩; obtain ⟨⟨hH, q1⟩, q2⟩ := hS; obtain ⟨x0, x1, x2, x3, _⟩ := hH.1; go_simp; first | done | with_reducible rfl) | fail
          simp only [Act.put, List.setIfInBounds_toArray, List.set_cons_zero, List.set_cons_succ]
          refine takeW (i := 14) (v := ?_) (Stable.and (Stable.and (Stable.held _ _) (stable_blkN (w.heap.size + 1) 61 4)) (stable_fi (w.heap.size + 1 + 1) (.slice A7 rs.length c7) rs (.slice A8 ds.length c8) ds)) rfl (by kernel_rfl) (by kernel_rfl) (by kernel_rfl) (fun _ _ _ h => h) ?_ ?_
          rotate_left
          · first | (refine Or.inl ⟨by rfl, fun W hS => detR_value (w' := W) ?_ (Below.refl _ _)⟩; obtain ⟨⟨hH, q1⟩, q2⟩ := hS; obtain ⟨x0, x1, x2, x3, _⟩ := hH.1; go_simp; first | done | with_reducible rfl) | fail
          simp only [Act.put, List.setIfInBounds_toArray, List.set_cons_zero, List.set_cons_succ]
          refine storeK (i := 15) (b := w.heap.size + 1) #[.slice A ns.length c, .slice A2 ls.length c2, .slice A7 rs.length c7, .slice A8 ds.length c8] (Stable.and (Stable.and (Stable.held _ _) (stable_blkN (w.heap.size + 1) 61 4)) (stable_fi (w.heap.size + 1 + 1) (.slice A7 rs.length c7) rs (.slice A8 ds.length c8) ds)) (fun W hS => by obtain ⟨⟨hH, q1⟩, q2⟩ := hS; exact q1) (fun W hS => by obtain ⟨⟨hH, q1⟩, q2⟩ := hS; exact ⟨⟨hH.setRowAt (by simp; omega) (Nat.le_succ _) _, q1.setRow rfl⟩, q2.setRow (Nat.lt_succ_self _) _⟩) rfl (by kernel_rfl) (by rfl) rfl (by rfl) (by rfl) rfl (by kernel_rfl) (by simp [Value.oneCell']) ?_
          simp only [Act.put, List.setIfInBounds_toArray, List.set_cons_zero, List.set_cons_succ]
          refine takeW (i := 16) (v := ?_) (Stable.and (Stable.and (Stable.and (Stable.held _ _) (stable_blkN (w.heap.size + 1) 61 4)) (stable_fi (w.heap.size + 1 + 1) (.slice A7 rs.length c7) rs (.slice A8 ds.length c8) ds)) (stable_blkIs _ _ _)) rfl (by kernel_rfl) (by kernel_rfl) (by kernel_rfl) (fun _ _ _ h => h) ?_ ?_
          rotate_left
          · first | (refine Or.inl ⟨by rfl, fun W hS => detR_value (w' := W) ?_ (Below.refl _ _)⟩; obtain ⟨⟨⟨hH, q1⟩, q2⟩, hs⟩ := hS; obtain ⟨x0, x1, x2, x3, _⟩ := hH.1; go_simp; first | done | with_reducible rfl) | fail
          simp only [Act.put, List.setIfInBounds_toArray, List.set_cons_zero, List.set_cons_succ]
          refine doneW (by kernel_rfl) fun wH7 HG => ?_
          obtain ⟨⟨⟨hH, q1⟩, q2⟩, hs⟩ := HG
          have H7 := Lib.hid hH; clear hH
          have MH7_q1 := Lib.hid q1; clear q1
          have MH7_q2 := Lib.hid q2; clear q2
          have MH7_s := Lib.hid hs; clear hs
          try clear x0 x1 x2 x3
          have r0 := (cell_of_cells (k := 0) MH7_s.out).trans (rfl : _ = some (Value.slice A ns.length c))
          have r1 := (cell_of_cells (k := 1) MH7_s.out).trans (rfl : _ = some (Value.slice A2 ls.length c2))
          have r2 := (cell_of_cells (k := 2) MH7_s.out).trans (rfl : _ = some (Value.slice A7 rs.length c7))
          have r3 := (cell_of_cells (k := 3) MH7_s.out).trans (rfl : _ = some (Value.slice A8 ds.length c8))
          go_wp2_with fail
          refine bodyPost_ret (v := .tuple #[.agg #[.slice A ns.length c, .slice A2 ls.length c2, .slice A7 rs.length c7, .slice A8 ds.length c8], .bool false]) (by simp [results, Tryz.results43, go_sem, r0, r1, r2, r3]) rfl ⟨_, _, _, _, by first | (rw [HRES.out]; done) | (rw [HRES.out]; rfl), ?_, ?_, ?_, ?_, H7.out.below⟩
          · rw [HGN.out]; exact HN.out.step H7.out.below
          · rw [HGL2.out]; exact HL.out.step H7.out.below
          · rw [HWF.out]; exact MH7_q2.out.f.mono (by omega)
          · rw [HGA.out]; exact MH7_q2.out.a.mono (by omega)
    · obtain rfl := HLD.out
      obtain ⟨p, hp⟩ : ∃ p, decide (1 ≤ a) = p := ⟨_, rfl⟩
      obtain ⟨q, hq⟩ : ∃ q, decide (a ≤ 6) = q := ⟨_, rfl⟩
      replace HRES := Lib.hid (show res = (p && q) from by rw [HRES.out, hp, hq]; rfl)
      cases p
      · cases q
        · refine regionW (fun W => ((Held _ W [(w1.heap.size, 0, .slice A ns.length c), (w1.heap.size, 1, .slice A2 ls.length c2), (w1.heap.size, 2, .slice A7 rs.length c7), (w1.heap.size, 3, .slice A8 ds.length c8)]) ∧ BlkN (w.heap.size + 1) 61 4 W) ∧ FI (w.heap.size + 1 + 1) (.slice A7 rs.length c7) rs (.slice A8 ds.length c8) ds W) (by kernel_rfl) ⟨⟨H8.out.drew, HK9.out⟩, (FI9.out).step ((Below.refl _ _).drew)⟩ ?_
          refine takeW (i := 0) (v := ?_) (Stable.and (Stable.and (Stable.held _ _) (stable_blkN (w.heap.size + 1) 61 4)) (stable_fi (w.heap.size + 1 + 1) (.slice A7 rs.length c7) rs (.slice A8 ds.length c8) ds)) rfl (by kernel_rfl) (by kernel_rfl) (by kernel_rfl) (fun _ _ _ h => h) ?_ ?_
          rotate_left
          · first | (refine Or.inl ⟨by rfl, fun W hS => detR_value (w' := W) ?_ (Below.refl _ _)⟩; obtain ⟨⟨hH, q1⟩, q2⟩ := hS; obtain ⟨x0, x1, x2, x3, _⟩ := hH.1; go_simp; first | done | with_reducible rfl) | fail
          simp only [Act.put, List.setIfInBounds_toArray, List.set_cons_zero, List.set_cons_succ]
          refine takeW (i := 1) (v := ?_) (Stable.and (Stable.and (Stable.held _ _) (stable_blkN (w.heap.size + 1) 61 4)) (stable_fi (w.heap.size + 1 + 1) (.slice A7 rs.length c7) rs (.slice A8 ds.length c8) ds)) rfl (by kernel_rfl) (by kernel_rfl) (by kernel_rfl) (fun _ _ _ h => h) ?_ ?_
          rotate_left
          · first | (refine Or.inl ⟨by rfl, fun W hS => detR_value (w' := W) ?_ (Below.refl _ _)⟩; obtain ⟨⟨hH, q1⟩, q2⟩ := hS; obtain ⟨x0, x1, x2, x3, _⟩ := hH.1; go_simp; first | done | with_reducible rfl) | fail
          simp only [Act.put, List.setIfInBounds_toArray, List.set_cons_zero, List.set_cons_succ]
          refine takeW (i := 2) (v := ?_) (Stable.and (Stable.and (Stable.held _ _) (stable_blkN (w.heap.size + 1) 61 4)) (stable_fi (w.heap.size + 1 + 1) (.slice A7 rs.length c7) rs (.slice A8 ds.length c8) ds)) rfl (by kernel_rfl) (by kernel_rfl) (by kernel_rfl) (fun _ _ _ h => h) ?_ ?_
          rotate_left
          · first | (refine Or.inl ⟨by rfl, fun W hS => detR_value (w' := W) ?_ (Below.refl _ _)⟩; obtain ⟨⟨hH, q1⟩, q2⟩ := hS; obtain ⟨x0, x1, x2, x3, _⟩ := hH.1; go_simp; first | done | with_reducible rfl) | fail
          simp only [Act.put, List.setIfInBounds_toArray, List.set_cons_zero, List.set_cons_succ]
          refine takeW (i := 3) (v := ?_) (Stable.and (Stable.and (Stable.held _ _) (stable_blkN (w.heap.size + 1) 61 4)) (stable_fi (w.heap.size + 1 + 1) (.slice A7 rs.length c7) rs (.slice A8 ds.length c8) ds)) rfl (by kernel_rfl) (by kernel_rfl) (by kernel_rfl) (fun _ _ _ h => h) ?_ ?_
          rotate_left
          · first | (refine Or.inr ⟨by rfl, ?_⟩; with_reducible rfl) | (refine Or.inl ⟨by rfl, fun W hS => detR_value (w' := W) ?_ (Below.refl _ _)⟩; obtain ⟨⟨hH, q1⟩, q2⟩ := hS; obtain ⟨x0, x1, x2, x3, _⟩ := hH.1; go_simp; first | done | with_reducible rfl) | fail
          simp only [Act.put, List.setIfInBounds_toArray, List.set_cons_zero, List.set_cons_succ]
          refine takeW (i := 4) (v := ?_) (Stable.and (Stable.and (Stable.held _ _) (stable_blkN (w.heap.size + 1) 61 4)) (stable_fi (w.heap.size + 1 + 1) (.slice A7 rs.length c7) rs (.slice A8 ds.length c8) ds)) rfl (by kernel_rfl) (by kernel_rfl) (by kernel_rfl) (fun _ _ _ h => h) ?_ ?_
          rotate_left
          · first | (refine Or.inr ⟨by rfl, ?_⟩; with_reducible rfl) | (refine Or.inl ⟨by rfl, fun W hS => detR_value (w' := W) ?_ (Below.refl _ _)⟩; obtain ⟨⟨hH, q1⟩, q2⟩ := hS; obtain ⟨x0, x1, x2, x3, _⟩ := hH.1; go_simp; first | done | with_reducible rfl) | fail
          simp only [Act.put, List.setIfInBounds_toArray, List.set_cons_zero, List.set_cons_succ]
          refine takeW (i := 5) (v := ?_) (Stable.and (Stable.and (Stable.held _ _) (stable_blkN (w.heap.size + 1) 61 4)) (stable_fi (w.heap.size + 1 + 1) (.slice A7 rs.length c7) rs (.slice A8 ds.length c8) ds)) rfl (by kernel_rfl) (by kernel_rfl) (by kernel_rfl) (fun _ _ _ h => h) ?_ ?_
          rotate_left
          · first | (refine Or.inr ⟨by rfl, ?_⟩; with_reducible rfl) | (refine Or.inl ⟨by rfl, fun W hS => ?_⟩; obtain ⟨⟨hH, q1⟩, q2⟩ := hS; refine detR_call (w' := W) (f := ?_) (args := ?_) ?_ ?_; rotate_left 2; (go_simp; (refine ⟨?_, ?_⟩ <;> with_reducible rfl)); (first | (with_reducible refine (HT.out _ _ _ _ _ _ _ _ _ _ _ _ hH.below).mono ?_) | fail); (first | (rintro e wn ⟨rfl, hb⟩; refine ⟨?_, hb⟩; with_reducible rfl) | (rintro e wn ⟨rfl, rfl⟩; refine ⟨?_, Below.refl _ _⟩; with_reducible rfl) | fail)) | fail
          simp only [Act.put, List.setIfInBounds_toArray, List.set_cons_zero, List.set_cons_succ]
          refine takeW (i := 6) (v := ?_) (Stable.and (Stable.and (Stable.held _ _) (stable_blkN (w.heap.size + 1) 61 4)) (stable_fi (w.heap.size + 1 + 1) (.slice A7 rs.length c7) rs (.slice A8 ds.length c8) ds)) rfl (by kernel_rfl) (by kernel_rfl) (by kernel_rfl) (fun _ _ _ h => h) ?_ ?_
          rotate_left
          · first | (refine Or.inl ⟨by rfl, fun W hS => detR_value (w' := W) ?_ (Below.refl _ _)⟩; obtain ⟨⟨hH, q1⟩, q2⟩ := hS; obtain ⟨x0, x1, x2, x3, _⟩ := hH.1; go_simp; first | done | with_reducible rfl) | fail
          simp only [Act.put, List.setIfInBounds_toArray, List.set_cons_zero, List.set_cons_succ]
          refine takeW (i := 7) (v := ?_) (Stable.and (Stable.and (Stable.held _ _) (stable_blkN (w.heap.size + 1) 61 4)) (stable_fi (w.heap.size + 1 + 1) (.slice A7 rs.length c7) rs (.slice A8 ds.length c8) ds)) rfl (by kernel_rfl) (by kernel_rfl) (by kernel_rfl) (fun _ _ _ h => h) ?_ ?_
          rotate_left
          · first | (refine Or.inl ⟨by rfl, fun W hS => detR_value (w' := W) ?_ (Below.refl _ _)⟩; obtain ⟨⟨hH, q1⟩, q2⟩ := hS; obtain ⟨x0, x1, x2, x3, _⟩ := hH.1; go_simp; first | done | with_reducible rfl) | fail
          simp only [Act.put, List.setIfInBounds_toArray, List.set_cons_zero, List.set_cons_succ]
          refine takeW (i := 8) (v := ?_) (Stable.and (Stable.and (Stable.held _ _) (stable_blkN (w.heap.size + 1) 61 4)) (stable_fi (w.heap.size + 1 + 1) (.slice A7 rs.length c7) rs (.slice A8 ds.length c8) ds)) rfl (by kernel_rfl) (by kernel_rfl) (by kernel_rfl) (fun _ _ _ h => h) ?_ ?_
          rotate_left
          · first | (refine Or.inr ⟨by rfl, ?_⟩; with_reducible rfl) | (refine Or.inl ⟨by rfl, fun W hS => detR_value (w' := W) ?_ (Below.refl _ _)⟩; obtain ⟨⟨hH, q1⟩, q2⟩ := hS; obtain ⟨x0, x1, x2, x3, _⟩ := hH.1; go_simp; first | done | with_reducible rfl) | fail
          simp only [Act.put, List.setIfInBounds_toArray, List.set_cons_zero, List.set_cons_succ]
          refine takeW (i := 9) (v := ?_) (Stable.and (Stable.and (Stable.held _ _) (stable_blkN (w.heap.size + 1) 61 4)) (stable_fi (w.heap.size + 1 + 1) (.slice A7 rs.length c7) rs (.slice A8 ds.length c8) ds)) rfl (by kernel_rfl) (by kernel_rfl) (by kernel_rfl) (fun _ _ _ h => h) ?_ ?_
          rotate_left
          · first | (refine Or.inr ⟨by rfl, ?_⟩; with_reducible rfl) | (refine Or.inl ⟨by rfl, fun W hS => detR_value (w' := W) ?_ (Below.refl _ _)⟩; obtain ⟨⟨hH, q1⟩, q2⟩ := hS; obtain ⟨x0, x1, x2, x3, _⟩ := hH.1; go_simp; first | done | with_reducible rfl) | fail
          simp only [Act.put, List.setIfInBounds_toArray, List.set_cons_zero, List.set_cons_succ]
          refine takeW (i := 10) (v := ?_) (Stable.and (Stable.and (Stable.held _ _) (stable_blkN (w.heap.size + 1) 61 4)) (stable_fi (w.heap.size + 1 + 1) (.slice A7 rs.length c7) rs (.slice A8 ds.length c8) ds)) rfl (by kernel_rfl) (by kernel_rfl) (by kernel_rfl) (fun _ _ _ h => h) ?_ ?_
          rotate_left
          · first | (refine Or.inl ⟨by rfl, fun W hS => detR_value (w' := W) ?_ (Below.refl _ _)⟩; obtain ⟨⟨hH, q1⟩, q2⟩ := hS; obtain ⟨x0, x1, x2, x3, _⟩ := hH.1; go_simp; first | done | with_reducible rfl) | fail
          simp only [Act.put, List.setIfInBounds_toArray, List.set_cons_zero, List.set_cons_succ]
          refine takeW (i := 11) (v := ?_) (Stable.and (Stable.and (Stable.held _ _) (stable_blkN (w.heap.size + 1) 61 4)) (stable_fi (w.heap.size + 1 + 1) (.slice A7 rs.length c7) rs (.slice A8 ds.length c8) ds)) rfl (by kernel_rfl) (by kernel_rfl) (by kernel_rfl) (fun _ _ _ h => h) ?_ ?_
          rotate_left
          · first | (refine Or.inl ⟨by rfl, fun W hS => detR_value (w' := W) ?_ (Below.refl _ _)⟩; obtain ⟨⟨hH, q1⟩, q2⟩ := hS; obtain ⟨x0, x1, x2, x3, _⟩ := hH.1; go_simp; first | done | with_reducible rfl) | fail
          simp only [Act.put, List.setIfInBounds_toArray, List.set_cons_zero, List.set_cons_succ]
          refine takeW (i := 12) (v := ?_) (Stable.and (Stable.and (Stable.held _ _) (stable_blkN (w.heap.size + 1) 61 4)) (stable_fi (w.heap.size + 1 + 1) (.slice A7 rs.length c7) rs (.slice A8 ds.length c8) ds)) rfl (by kernel_rfl) (by kernel_rfl) (by kernel_rfl) (fun _ _ _ h => h) ?_ ?_
          rotate_left
          · first | (refine Or.inr ⟨by rfl, ?_⟩; with_reducible rfl) | (refine Or.inl ⟨by rfl, fun W hS => detR_value (w' := W) ?_ (Below.refl _ _)⟩; obtain ⟨⟨hH, q1⟩, q2⟩ := hS; obtain ⟨x0, x1, x2, x3, _⟩ := hH.1; go_simp; first | done | with_reducible rfl) | fail
          simp only [Act.put, List.setIfInBounds_toArray, List.set_cons_zero, List.set_cons_succ]
          refine takeW (i := 13) (v := ?_) (Stable.and (Stable.and (Stable.held _ _) (stable_blkN (w.heap.size + 1) 61 4)) (stable_fi (w.heap.size + 1 + 1) (.slice A7 rs.length c7) rs (.slice A8 ds.length c8) ds)) rfl (by kernel_rfl) (by kernel_rfl) (by kernel_rfl) (fun _ _ _ h => h) ?_ ?_
          rotate_left
          · first | (refine Or.inr ⟨by rfl, ?_⟩; with_reducible rfl) | (refine Or.inl ⟨by rfl, fun W hS => detR_value (w' := W) ?_ (Below.refl _ _)⟩; obtain ⟨⟨hH, q1⟩, q2⟩ := hS; obtain ⟨x0, x1, x2, x3, _⟩ := hH.1; go_simp; first | done | with_reducible rfl) | fail
          simp only [Act.put, List.setIfInBounds_toArray, List.set_cons_zero, List.set_cons_succ]
          refine takeW (i := 14) (v := ?_) (Stable.and (Stable.and (Stable.held _ _) (stable_blkN (w.heap.size + 1) 61 4)) (stable_fi (w.heap.size + 1 + 1) (.slice A7 rs.length c7) rs (.slice A8 ds.length c8) ds)) rfl (by kernel_rfl) (by kernel_rfl) (by kernel_rfl) (fun _ _ _ h => h) ?_ ?_
          rotate_left
          · first | (refine Or.inl ⟨by rfl, fun W hS => detR_value (w' := W) ?_ (Below.refl _ _)⟩; obtain ⟨⟨hH, q1⟩, q2⟩ := hS; obtain ⟨x0, x1, x2, x3, _⟩ := hH.1; go_simp; first | done | with_reducible rfl) | fail
          simp only [Act.put, List.setIfInBounds_toArray, List.set_cons_zero, List.set_cons_succ]
          refine storeK (i := 15) (b := w.heap.size + 1) #[.slice A ns.length c, .slice A2 ls.length c2, .slice A7 rs.length c7, .slice A8 ds.length c8] (Stable.and (Stable.and (Stable.held _ _) (stable_blkN (w.heap.size + 1) 61 4)) (stable_fi (w.heap.size + 1 + 1) (.slice A7 rs.length c7) rs (.slice A8 ds.length c8) ds)) (fun W hS => by obtain ⟨⟨hH, q1⟩, q2⟩ := hS; exact q1) (fun W hS => by obtain ⟨⟨hH, q1⟩, q2⟩ := hS; exact ⟨⟨hH.setRowAt (by simp; omega) (Nat.le_succ _) _, q1.setRow rfl⟩, q2.setRow (Nat.lt_succ_self _) _⟩) rfl (by kernel_rfl) (by rfl) rfl (by rfl) (by rfl) rfl (by kernel_rfl) (by simp [Value.oneCell']) ?_
          simp only [Act.put, List.setIfInBounds_toArray, List.set_cons_zero, List.set_cons_succ]
          refine takeW (i := 16) (v := ?_) (Stable.and (Stable.and (Stable.and (Stable.held _ _) (stable_blkN (w.heap.size + 1) 61 4)) (stable_fi (w.heap.size + 1 + 1) (.slice A7 rs.length c7) rs (.slice A8 ds.length c8) ds)) (stable_blkIs _ _ _)) rfl (by kernel_rfl) (by kernel_rfl) (by kernel_rfl) (fun _ _ _ h => h) ?_ ?_
          rotate_left
          · first | (refine Or.inl ⟨by rfl, fun W hS => detR_value (w' := W) ?_ (Below.refl _ _)⟩; obtain ⟨⟨⟨hH, q1⟩, q2⟩, hs⟩ := hS; obtain ⟨x0, x1, x2, x3, _⟩ := hH.1; go_simp; first | done | with_reducible rfl) | fail
          simp only [Act.put, List.setIfInBounds_toArray, List.set_cons_zero, List.set_cons_succ]
          refine doneW (by kernel_rfl) fun wH7 HG => ?_
          obtain ⟨⟨⟨hH, q1⟩, q2⟩, hs⟩ := HG
          have H7 := Lib.hid hH; clear hH
          have MH7_q1 := Lib.hid q1; clear q1
          have MH7_q2 := Lib.hid q2; clear q2
          have MH7_s := Lib.hid hs; clear hs
          try clear x0 x1 x2 x3
          have r0 := (cell_of_cells (k := 0) MH7_s.out).trans (rfl : _ = some (Value.slice A ns.length c))
          have r1 := (cell_of_cells (k := 1) MH7_s.out).trans (rfl : _ = some (Value.slice A2 ls.length c2))
          have r2 := (cell_of_cells (k := 2) MH7_s.out).trans (rfl : _ = some (Value.slice A7 rs.length c7))
          have r3 := (cell_of_cells (k := 3) MH7_s.out).trans (rfl : _ = some (Value.slice A8 ds.length c8))
          go_wp2_with fail
          refine bodyPost_ret (v := .tuple #[.agg #[.slice A ns.length c, .slice A2 ls.length c2, .slice A7 rs.length c7, .slice A8 ds.length c8], .bool false]) (by simp [results, Tryz.results43, go_sem, r0, r1, r2, r3]) rfl ⟨_, _, _, _, by first | (rw [HRES.out]; done) | (rw [HRES.out]; rfl), ?_, ?_, ?_, ?_, H7.out.below⟩
          · rw [HGN.out]; exact HN.out.step H7.out.below
          · rw [HGL2.out]; exact HL.out.step H7.out.below
          · rw [HWF.out]; exact MH7_q2.out.f.mono (by omega)
          · rw [HGA.out]; exact MH7_q2.out.a.mono (by omega)
        · refine regionW (fun W => ((Held _ W [(w1.heap.size, 0, .slice A ns.length c), (w1.heap.size, 1, .slice A2 ls.length c2), (w1.heap.size, 2, .slice A7 rs.length c7), (w1.heap.size, 3, .slice A8 ds.length c8)]) ∧ BlkN (w.heap.size + 1) 61 4 W) ∧ FI (w.heap.size + 1 + 1) (.slice A7 rs.length c7) rs (.slice A8 ds.length c8) ds W) (by kernel_rfl) ⟨⟨H8.out.drew, HK9.out⟩, (FI9.out).step ((Below.refl _ _).drew)⟩ ?_
          refine takeW (i := 0) (v := ?_) (Stable.and (Stable.and (Stable.held _ _) (stable_blkN (w.heap.size + 1) 61 4)) (stable_fi (w.heap.size + 1 + 1) (.slice A7 rs.length c7) rs (.slice A8 ds.length c8) ds)) rfl (by kernel_rfl) (by kernel_rfl) (by kernel_rfl) (fun _ _ _ h => h) ?_ ?_
          rotate_left
          · first | (refine Or.inl ⟨by rfl, fun W hS => detR_value (w' := W) ?_ (Below.refl _ _)⟩; obtain ⟨⟨hH, q1⟩, q2⟩ := hS; obtain ⟨x0, x1, x2, x3, _⟩ := hH.1; go_simp; first | done | with_reducible rfl) | fail
          simp only [Act.put, List.setIfInBounds_toArray, List.set_cons_zero, List.set_cons_succ]
          refine takeW (i := 1) (v := ?_) (Stable.and (Stable.and (Stable.held _ _) (stable_blkN (w.heap.size + 1) 61 4)) (stable_fi (w.heap.size + 1 + 1) (.slice A7 rs.length c7) rs (.slice A8 ds.length c8) ds)) rfl (by kernel_rfl) (by kernel_rfl) (by kernel_rfl) (fun _ _ _ h => h) ?_ ?_
          rotate_left
          · first | (refine Or.inl ⟨by rfl, fun W hS => detR_value (w' := W) ?_ (Below.refl _ _)⟩; obtain ⟨⟨hH, q1⟩, q2⟩ := hS; obtain ⟨x0, x1, x2, x3, _⟩ := hH.1; go_simp; first | done | with_reducible rfl) | fail
          simp only [Act.put, List.setIfInBounds_toArray, List.set_cons_zero, List.set_cons_succ]
          refine takeW (i := 2) (v := ?_) (Stable.and (Stable.and (Stable.held _ _) (stable_blkN (w.heap.size + 1) 61 4)) (stable_fi (w.heap.size + 1 + 1) (.slice A7 rs.length c7) rs (.slice A8 ds.length c8) ds)) rfl (by kernel_rfl) (by kernel_rfl) (by kernel_rfl) (fun _ _ _ h => h) ?_ ?_
          rotate_left
          · first | (refine Or.inl ⟨by rfl, fun W hS => detR_value (w' := W) ?_ (Below.refl _ _)⟩; obtain ⟨⟨hH, q1⟩, q2⟩ := hS; obtain ⟨x0, x1, x2, x3, _⟩ := hH.1; go_simp; first | done | with_reducible rfl) | fail
          simp only [Act.put, List.setIfInBounds_toArray, List.set_cons_zero, List.set_cons_succ]
          refine takeW (i := 3) (v := ?_) (Stable.and (Stable.and (Stable.held _ _) (stable_blkN (w.heap.size + 1) 61 4)) (stable_fi (w.heap.size + 1 + 1) (.slice A7 rs.length c7) rs (.slice A8 ds.length c8) ds)) rfl (by kernel_rfl) (by kernel_rfl) (by kernel_rfl) (fun _ _ _ h => h) ?_ ?_
          rotate_left
          · first | (refine Or.inr ⟨by rfl, ?_⟩; with_reducible rfl) | (refine Or.inl ⟨by rfl, fun W hS => detR_value (w' := W) ?_ (Below.refl _ _)⟩; obtain ⟨⟨hH, q1⟩, q2⟩ := hS; obtain ⟨x0, x1, x2, x3, _⟩ := hH.1; go_simp; first | done | with_reducible rfl) | fail
          simp only [Act.put, List.setIfInBounds_toArray, List.set_cons_zero, List.set_cons_succ]
          refine takeW (i := 4) (v := ?_) (Stable.and (Stable.and (Stable.held _ _) (stable_blkN (w.heap.size + 1) 61 4)) (stable_fi (w.heap.size + 1 + 1) (.slice A7 rs.length c7) rs (.slice A8 ds.length c8) ds)) rfl (by kernel_rfl) (by kernel_rfl) (by kernel_rfl) (fun _ _ _ h => h) ?_ ?_
          rotate_left
          · first | (refine Or.inr ⟨by rfl, ?_⟩; with_reducible rfl) | (refine Or.inl ⟨by rfl, fun W hS => detR_value (w' := W) ?_ (Below.refl _ _)⟩; obtain ⟨⟨hH, q1⟩, q2⟩ := hS; obtain ⟨x0, x1, x2, x3, _⟩ := hH.1; go_simp; first | done | with_reducible rfl) | fail
          simp only [Act.put, List.setIfInBounds_toArray, List.set_cons_zero, List.set_cons_succ]
          refine takeW (i := 5) (v := ?_) (Stable.and (Stable.and (Stable.held _ _) (stable_blkN (w.heap.size + 1) 61 4)) (stable_fi (w.heap.size + 1 + 1) (.slice A7 rs.length c7) rs (.slice A8 ds.length c8) ds)) rfl (by kernel_rfl) (by kernel_rfl) (by kernel_rfl) (fun _ _ _ h => h) ?_ ?_
          rotate_left
          · first | (refine Or.inr ⟨by rfl, ?_⟩; with_reducible rfl) | (refine Or.inl ⟨by rfl, fun W hS => ?_⟩; obtain ⟨⟨hH, q1⟩, q2⟩ := hS; refine detR_call (w' := W) (f := ?_) (args := ?_) ?_ ?_; rotate_left 2; (go_simp; (refine ⟨?_, ?_⟩ <;> with_reducible rfl)); (first | (with_reducible refine (HT.out _ _ _ _ _ _ _ _ _ _ _ _ hH.below).mono ?_) | fail); (first | (rintro e wn ⟨rfl, hb⟩; refine ⟨?_, hb⟩; with_reducible rfl) | (rintro e wn ⟨rfl, rfl⟩; refine ⟨?_, Below.refl _ _⟩; with_reducible rfl) | fail)) | fail
          simp only [Act.put, List.setIfInBounds_toArray, List.set_cons_zero, List.set_cons_succ]
          refine takeW (i := 6) (v := ?_) (Stable.and (Stable.and (Stable.held _ _) (stable_blkN (w.heap.size + 1) 61 4)) (stable_fi (w.heap.size + 1 + 1) (.slice A7 rs.length c7) rs (.slice A8 ds.length c8) ds)) rfl (by kernel_rfl) (by kernel_rfl) (by kernel_rfl) (fun _ _ _ h => h) ?_ ?_
          rotate_left
          · first | (refine Or.inl ⟨by rfl, fun W hS => detR_value (w' := W) ?_ (Below.refl _ _)⟩; obtain ⟨⟨hH, q1⟩, q2⟩ := hS; obtain ⟨x0, x1, x2, x3, _⟩ := hH.1; go_simp; first | done | with_reducible rfl) | fail
          simp only [Act.put, List.setIfInBounds_toArray, List.set_cons_zero, List.set_cons_succ]
          refine takeW (i := 7) (v := ?_) (Stable.and (Stable.and (Stable.held _ _) (stable_blkN (w.heap.size + 1) 61 4)) (stable_fi (w.heap.size + 1 + 1) (.slice A7 rs.length c7) rs (.slice A8 ds.length c8) ds)) rfl (by kernel_rfl) (by kernel_rfl) (by kernel_rfl) (fun _ _ _ h => h) ?_ ?_
          rotate_left
          · first | (refine Or.inl ⟨by rfl, fun W hS => detR_value (w' := W) ?_ (Below.refl _ _)⟩; obtain ⟨⟨hH, q1⟩, q2⟩ := hS; obtain ⟨x0, x1, x2, x3, _⟩ := hH.1; go_simp; first | done | with_reducible rfl) | fail
          simp only [Act.put, List.setIfInBounds_toArray, List.set_cons_zero, List.set_cons_succ]
          refine takeW (i := 8) (v := ?_) (Stable.and (Stable.and (Stable.held _ _) (stable_blkN (w.heap.size + 1) 61 4)) (stable_fi (w.heap.size + 1 + 1) (.slice A7 rs.length c7) rs (.slice A8 ds.length c8) ds)) rfl (by kernel_rfl) (by kernel_rfl) (by kernel_rfl) (fun _ _ _ h => h) ?_ ?_
          rotate_left
          · first | (refine Or.inr ⟨by rfl, ?_⟩; with_reducible rfl) | (refine Or.inl ⟨by rfl, fun W hS => detR_value (w' := W) ?_ (Below.refl _ _)⟩; obtain ⟨⟨hH, q1⟩, q2⟩ := hS; obtain ⟨x0, x1, x2, x3, _⟩ := hH.1; go_simp; first | done | with_reducible rfl) | fail
          simp only [Act.put, List.setIfInBounds_toArray, List.set_cons_zero, List.set_cons_succ]
          refine takeW (i := 9) (v := ?_) (Stable.and (Stable.and (Stable.held _ _) (stable_blkN (w.heap.size + 1) 61 4)) (stable_fi (w.heap.size + 1 + 1) (.slice A7 rs.length c7) rs (.slice A8 ds.length c8) ds)) rfl (by kernel_rfl) (by kernel_rfl) (by kernel_rfl) (fun _ _ _ h => h) ?_ ?_
          rotate_left
          · first | (refine Or.inr ⟨by rfl, ?_⟩; with_reducible rfl) | (refine Or.inl ⟨by rfl, fun W hS => detR_value (w' := W) ?_ (Below.refl _ _)⟩; obtain ⟨⟨hH, q1⟩, q2⟩ := hS; obtain ⟨x0, x1, x2, x3, _⟩ := hH.1; go_simp; first | done | with_reducible rfl) | fail
          simp only [Act.put, List.setIfInBounds_toArray, List.set_cons_zero, List.set_cons_succ]
          refine takeW (i := 10) (v := ?_) (Stable.and (Stable.and (Stable.held _ _) (stable_blkN (w.heap.size + 1) 61 4)) (stable_fi (w.heap.size + 1 + 1) (.slice A7 rs.length c7) rs (.slice A8 ds.length c8) ds)) rfl (by kernel_rfl) (by kernel_rfl) (by kernel_rfl) (fun _ _ _ h => h) ?_ ?_
          rotate_left
          · first | (refine Or.inl ⟨by rfl, fun W hS => detR_value (w' := W) ?_ (Below.refl _ _)⟩; obtain ⟨⟨hH, q1⟩, q2⟩ := hS; obtain ⟨x0, x1, x2, x3, _⟩ := hH.1; go_simp; first | done | with_reducible rfl) | fail
          simp only [Act.put, List.setIfInBounds_toArray, List.set_cons_zero, List.set_cons_succ]
          refine takeW (i := 11) (v := ?_) (Stable.and (Stable.and (Stable.held _ _) (stable_blkN (w.heap.size + 1) 61 4)) (stable_fi (w.heap.size + 1 + 1) (.slice A7 rs.length c7) rs (.slice A8 ds.length c8) ds)) rfl (by kernel_rfl) (by kernel_rfl) (by kernel_rfl) (fun _ _ _ h => h) ?_ ?_
          rotate_left
          · first | (refine Or.inl ⟨by rfl, fun W hS => detR_value (w' := W) ?_ (Below.refl _ _)⟩; obtain ⟨⟨hH, q1⟩, q2⟩ := hS; obtain ⟨x0, x1, x2, x3, _⟩ := hH.1; go_simp; first | done | with_reducible rfl) | fail
          simp only [Act.put, List.setIfInBounds_toArray, List.set_cons_zero, List.set_cons_succ]
          refine takeW (i := 12) (v := ?_) (Stable.and (Stable.and (Stable.held _ _) (stable_blkN (w.heap.size + 1) 61 4)) (stable_fi (w.heap.size + 1 + 1) (.slice A7 rs.length c7) rs (.slice A8 ds.length c8) ds)) rfl (by kernel_rfl) (by kernel_rfl) (by kernel_rfl) (fun _ _ _ h => h) ?_ ?_
          rotate_left
          · first | (refine Or.inr ⟨by rfl, ?_⟩; with_reducible rfl) | (refine Or.inl ⟨by rfl, fun W hS => detR_value (w' := W) ?_ (Below.refl _ _)⟩; obtain ⟨⟨hH, q1⟩, q2⟩ := hS; obtain ⟨x0, x1, x2, x3, _⟩ := hH.1; go_simp; first | done | with_reducible rfl) | fail
          simp only [Act.put, List.setIfInBounds_toArray, List.set_cons_zero, List.set_cons_succ]
          refine takeW (i := 13) (v := ?_) (Stable.and (Stable.and (Stable.held _ _) (stable_blkN (w.heap.size + 1) 61 4)) (stable_fi (w.heap.size + 1 + 1) (.slice A7 rs.length c7) rs (.slice A8 ds.length c8) ds)) rfl (by kernel_rfl) (by kernel_rfl) (by kernel_rfl) (fun _ _ _ h => h) ?_ ?_
          rotate_left
          · first | (refine Or.inr ⟨by rfl, ?_⟩; with_reducible rfl) | (refine Or.inl ⟨by rfl, fun W hS => detR_value (w' := W) ?_ (Below.refl _ _)⟩; obtain ⟨⟨hH, q1⟩, q2⟩ := hS; obtain ⟨x0, x1, x2, x3, _⟩ := hH.1; go_simp; first | done | with_reducible rfl) | fail
          simp only [Act.put, List.setIfInBounds_toArray, List.set_cons_zero, List.set_cons_succ]
          refine takeW (i := 14) (v := ?_) (Stable.and (Stable.and (Stable.held _ _) (stable_blkN (w.heap.size + 1) 61 4)) (stable_fi (w.heap.size + 1 + 1) (.slice A7 rs.length c7) rs (.slice A8 ds.length c8) ds)) rfl (by kernel_rfl) (by kernel_rfl) (by kernel_rfl) (fun _ _ _ h => h) ?_ ?_
          rotate_left
          · first | (refine Or.inl ⟨by rfl, fun W hS => detR_value (w' := W) ?_ (Below.refl _ _)⟩; obtain ⟨⟨hH, q1⟩, q2⟩ := hS; obtain ⟨x0, x1, x2, x3, _⟩ := hH.1; go_simp; first | done | with_reducible rfl) | fail
          simp only [Act.put, List.setIfInBounds_toArray, List.set_cons_zero, List.set_cons_succ]
          refine storeK (i := 15) (b := w.heap.size + 1) #[.slice A ns.length c, .slice A2 ls.length c2, .slice A7 rs.length c7, .slice A8 ds.length c8] (Stable.and (Stable.and (Stable.held _ _) (stable_blkN (w.heap.size + 1) 61 4)) (stable_fi (w.heap.size + 1 + 1) (.slice A7 rs.length c7) rs (.slice A8 ds.length c8) ds)) (fun W hS => by obtain ⟨⟨hH, q1⟩, q2⟩ := hS; exact q1) (fun W hS => by obtain ⟨⟨hH, q1⟩, q2⟩ := hS; exact ⟨⟨hH.setRowAt (by simp; omega) (Nat.le_succ _) _, q1.setRow rfl⟩, q2.setRow (Nat.lt_succ_self _) _⟩) rfl (by kernel_rfl) (by rfl) rfl (by rfl) (by rfl) rfl (by kernel_rfl) (by simp [Value.oneCell']) ?_
          simp only [Act.put, List.setIfInBounds_toArray, List.set_cons_zero, List.set_cons_succ]
          refine takeW (i := 16) (v := ?_) (Stable.and (Stable.and (Stable.and (Stable.held _ _) (stable_blkN (w.heap.size + 1) 61 4)) (stable_fi (w.heap.size + 1 + 1) (.slice A7 rs.length c7) rs (.slice A8 ds.length c8) ds)) (stable_blkIs _ _ _)) rfl (by kernel_rfl) (by kernel_rfl) (by kernel_rfl) (fun _ _ _ h => h) ?_ ?_
          rotate_left
          · first | (refine Or.inl ⟨by rfl, fun W hS => detR_value (w' := W) ?_ (Below.refl _ _)⟩; obtain ⟨⟨⟨hH, q1⟩, q2⟩, hs⟩ := hS; obtain ⟨x0, x1, x2, x3, _⟩ := hH.1; go_simp; first | done | with_reducible rfl) | fail
          simp only [Act.put, List.setIfInBounds_toArray, List.set_cons_zero, List.set_cons_succ]
          refine doneW (by kernel_rfl) fun wH7 HG => ?_
          obtain ⟨⟨⟨hH, q1⟩, q2⟩, hs⟩ := HG
          have H7 := Lib.hid hH; clear hH
          have MH7_q1 := Lib.hid q1; clear q1
          have MH7_q2 := Lib.hid q2; clear q2
          have MH7_s := Lib.hid hs; clear hs
          try clear x0 x1 x2 x3
          have r0 := (cell_of_cells (k := 0) MH7_s.out).trans (rfl : _ = some (Value.slice A ns.length c))
          have r1 := (cell_of_cells (k := 1) MH7_s.out).trans (rfl : _ = some (Value.slice A2 ls.length c2))
          have r2 := (cell_of_cells (k := 2) MH7_s.out).trans (rfl : _ = some (Value.slice A7 rs.length c7))
          have r3 := (cell_of_cells (k := 3) MH7_s.out).trans (rfl : _ = some (Value.slice A8 ds.length c8))
          go_wp2_with fail
          refine bodyPost_ret (v := .tuple #[.agg #[.slice A ns.length c, .slice A2 ls.length c2, .slice A7 rs.length c7, .slice A8 ds.length c8], .bool false]) (by simp [results, Tryz.results43, go_sem, r0, r1, r2, r3]) rfl ⟨_, _, _, _, by first | (rw [HRES.out]; done) | (rw [HRES.out]; rfl), ?_, ?_, ?_, ?_, H7.out.below⟩
          · rw [HGN.out]; exact HN.out.step H7.out.below
          · rw [HGL2.out]; exact HL.out.step H7.out.below
          · rw [HWF.out]; exact MH7_q2.out.f.mono (by omega)
          · rw [HGA.out]; exact MH7_q2.out.a.mono (by omega)
      · cases q
        · refine regionW (fun W => ((Held _ W [(w1.heap.size, 0, .slice A ns.length c), (w1.heap.size, 1, .slice A2 ls.length c2), (w1.heap.size, 2, .slice A7 rs.length c7), (w1.heap.size, 3, .slice A8 ds.length c8)]) ∧ BlkN (w.heap.size + 1) 61 4 W) ∧ FI (w.heap.size + 1 + 1) (.slice A7 rs.length c7) rs (.slice A8 ds.length c8) ds W) (by kernel_rfl) ⟨⟨H8.out.drew, HK9.out⟩, (FI9.out).step ((Below.refl _ _).drew)⟩ ?_
          refine takeW (i := 0) (v := ?_) (Stable.and (Stable.and (Stable.held _ _) (stable_blkN (w.heap.size + 1) 61 4)) (stable_fi (w.heap.size + 1 + 1) (.slice A7 rs.length c7) rs (.slice A8 ds.length c8) ds)) rfl (by kernel_rfl) (by kernel_rfl) (by kernel_rfl) (fun _ _ _ h => h) ?_ ?_
          rotate_left
          · first | (refine Or.inl ⟨by rfl, fun W hS => detR_value (w' := W) ?_ (Below.refl _ _)⟩; obtain ⟨⟨hH, q1⟩, q2⟩ := hS; obtain ⟨x0, x1, x2, x3, _⟩ := hH.1; go_simp; first | done | with_reducible rfl) | fail
          simp only [Act.put, List.setIfInBounds_toArray, List.set_cons_zero, List.set_cons_succ]
          refine takeW (i := 1) (v := ?_) (Stable.and (Stable.and (Stable.held _ _) (stable_blkN (w.heap.size + 1) 61 4)) (stable_fi (w.heap.size + 1 + 1) (.slice A7 rs.length c7) rs (.slice A8 ds.length c8) ds)) rfl (by kernel_rfl) (by kernel_rfl) (by kernel_rfl) (fun _ _ _ h => h) ?_ ?_
          rotate_left
          · first | (refine Or.inl ⟨by rfl, fun W hS => detR_value (w' := W) ?_ (Below.refl _ _)⟩; obtain ⟨⟨hH, q1⟩, q2⟩ := hS; obtain ⟨x0, x1, x2, x3, _⟩ := hH.1; go_simp; first | done | with_reducible rfl) | fail
          simp only [Act.put, List.setIfInBounds_toArray, List.set_cons_zero, List.set_cons_succ]
          refine takeW (i := 2) (v := ?_) (Stable.and (Stable.and (Stable.held _ _) (stable_blkN (w.heap.size + 1) 61 4)) (stable_fi (w.heap.size + 1 + 1) (.slice A7 rs.length c7) rs (.slice A8 ds.length c8) ds)) rfl (by kernel_rfl) (by kernel_rfl) (by kernel_rfl) (fun _ _ _ h => h) ?_ ?_
          rotate_left
          · first | (refine Or.inl ⟨by rfl, fun W hS => detR_value (w' := W) ?_ (Below.refl _ _)⟩; obtain ⟨⟨hH, q1⟩, q2⟩ := hS; obtain ⟨x0, x1, x2, x3, _⟩ := hH.1; go_simp; first | done | with_reducible rfl) | fail
          simp only [Act.put, List.setIfInBounds_toArray, List.set_cons_zero, List.set_cons_succ]
          refine takeW (i := 3) (v := ?_) (Stable.and (Stable.and (Stable.held _ _) (stable_blkN (w.heap.size + 1) 61 4)) (stable_fi (w.heap.size + 1 + 1) (.slice A7 rs.length c7) rs (.slice A8 ds.length c8) ds)) rfl (by kernel_rfl) (by kernel_rfl) (by kernel_rfl) (fun _ _ _ h => h) ?_ ?_
          rotate_left
          · first | (refine Or.inr ⟨by rfl, ?_⟩; with_reducible rfl) | (refine Or.inl ⟨by rfl, fun W hS => detR_value (w' := W) ?_ (Below.refl _ _)⟩; obtain ⟨⟨hH, q1⟩, q2⟩ := hS; obtain ⟨x0, x1, x2, x3, _⟩ := hH.1; go_simp; first | done | with_reducible rfl) | fail
          simp only [Act.put, List.setIfInBounds_toArray, List.set_cons_zero, List.set_cons_succ]
          refine takeW (i := 4) (v := ?_) (Stable.and (Stable.and (Stable.held _ _) (stable_blkN (w.heap.size + 1) 61 4)) (stable_fi (w.heap.size + 1 + 1) (.slice A7 rs.length c7) rs (.slice A8 ds.length c8) ds)) rfl (by kernel_rfl) (by kernel_rfl) (by kernel_rfl) (fun _ _ _ h => h) ?_ ?_
          rotate_left
          · first | (refine Or.inr ⟨by rfl, ?_⟩; with_reducible rfl) | (refine Or.inl ⟨by rfl, fun W hS => detR_value (w' := W) ?_ (Below.refl _ _)⟩; obtain ⟨⟨hH, q1⟩, q2⟩ := hS; obtain ⟨x0, x1, x2, x3, _⟩ := hH.1; go_simp; first | done | with_reducible rfl) | fail
          simp only [Act.put, List.setIfInBounds_toArray, List.set_cons_zero, List.set_cons_succ]
          refine takeW (i := 5) (v := ?_) (Stable.and (Stable.and (Stable.held _ _) (stable_blkN (w.heap.size + 1) 61 4)) (stable_fi (w.heap.size + 1 + 1) (.slice A7 rs.length c7) rs (.slice A8 ds.length c8) ds)) rfl (by kernel_rfl) (by kernel_rfl) (by kernel_rfl) (fun _ _ _ h => h) ?_ ?_
          rotate_left
          · first | (refine Or.inr ⟨by rfl, ?_⟩; with_reducible rfl) | (refine Or.inl ⟨by rfl, fun W hS => ?_⟩; obtain ⟨⟨hH, q1⟩, q2⟩ := hS; refine detR_call (w' := W) (f := ?_) (args := ?_) ?_ ?_; rotate_left 2; (go_simp; (refine ⟨?_, ?_⟩ <;> with_reducible rfl)); (first | (with_reducible refine (HT.out _ _ _ _ _ _ _ _ _ _ _ _ hH.below).mono ?_) | fail); (first | (rintro e wn ⟨rfl, hb⟩; refine ⟨?_, hb⟩; with_reducible rfl) | (rintro e wn ⟨rfl, rfl⟩; refine ⟨?_, Below.refl _ _⟩; with_reducible rfl) | fail)) | fail
          simp only [Act.put, List.setIfInBounds_toArray, List.set_cons_zero, List.set_cons_succ]
          refine takeW (i := 6) (v := ?_) (Stable.and (Stable.and (Stable.held _ _) (stable_blkN (w.heap.size + 1) 61 4)) (stable_fi (w.heap.size + 1 + 1) (.slice A7 rs.length c7) rs (.slice A8 ds.length c8) ds)) rfl (by kernel_rfl) (by kernel_rfl) (by kernel_rfl) (fun _ _ _ h => h) ?_ ?_
          rotate_left
          · first | (refine Or.inl ⟨by rfl, fun W hS => detR_value (w' := W) ?_ (Below.refl _ _)⟩; obtain ⟨⟨hH, q1⟩, q2⟩ := hS; obtain ⟨x0, x1, x2, x3, _⟩ := hH.1; go_simp; first | done | with_reducible rfl) | fail
          simp only [Act.put, List.setIfInBounds_toArray, List.set_cons_zero, List.set_cons_succ]
          refine takeW (i := 7) (v := ?_) (Stable.and (Stable.and (Stable.held _ _) (stable_blkN (w.heap.size + 1) 61 4)) (stable_fi (w.heap.size + 1 + 1) (.slice A7 rs.length c7) rs (.slice A8 ds.length c8) ds)) rfl (by kernel_rfl) (by kernel_rfl) (by kernel_rfl) (fun _ _ _ h => h) ?_ ?_
          rotate_left
          · first | (refine Or.inl ⟨by rfl, fun W hS => detR_value (w' := W) ?_ (Below.refl _ _)⟩; obtain ⟨⟨hH, q1⟩, q2⟩ := hS; obtain ⟨x0, x1, x2, x3, _⟩ := hH.1; go_simp; first | done | with_reducible rfl) | fail
          simp only [Act.put, List.setIfInBounds_toArray, List.set_cons_zero, List.set_cons_succ]
          refine takeW (i := 8) (v := ?_) (Stable.and (Stable.and (Stable.held _ _) (stable_blkN (w.heap.size + 1) 61 4)) (stable_fi (w.heap.size + 1 + 1) (.slice A7 rs.length c7) rs (.slice A8 ds.length c8) ds)) rfl (by kernel_rfl) (by kernel_rfl) (by kernel_rfl) (fun _ _ _ h => h) ?_ ?_
          rotate_left
          · first | (refine Or.inr ⟨by rfl, ?_⟩; with_reducible rfl) | (refine Or.inl ⟨by rfl, fun W hS => detR_value (w' := W) ?_ (Below.refl _ _)⟩; obtain ⟨⟨hH, q1⟩, q2⟩ := hS; obtain ⟨x0, x1, x2, x3, _⟩ := hH.1; go_simp; first | done | with_reducible rfl) | fail
          simp only [Act.put, List.setIfInBounds_toArray, List.set_cons_zero, List.set_cons_succ]
          refine takeW (i := 9) (v := ?_) (Stable.and (Stable.and (Stable.held _ _) (stable_blkN (w.heap.size + 1) 61 4)) (stable_fi (w.heap.size + 1 + 1) (.slice A7 rs.length c7) rs (.slice A8 ds.length c8) ds)) rfl (by kernel_rfl) (by kernel_rfl) (by kernel_rfl) (fun _ _ _ h => h) ?_ ?_
          rotate_left
          · first | (refine Or.inr ⟨by rfl, ?_⟩; with_reducible rfl) | (refine Or.inl ⟨by rfl, fun W hS => detR_value (w' := W) ?_ (Below.refl _ _)⟩; obtain ⟨⟨hH, q1⟩, q2⟩ := hS; obtain ⟨x0, x1, x2, x3, _⟩ := hH.1; go_simp; first | done | with_reducible rfl) | fail
          simp only [Act.put, List.setIfInBounds_toArray, List.set_cons_zero, List.set_cons_succ]
          refine takeW (i := 10) (v := ?_) (Stable.and (Stable.and (Stable.held _ _) (stable_blkN (w.heap.size + 1) 61 4)) (stable_fi (w.heap.size + 1 + 1) (.slice A7 rs.length c7) rs (.slice A8 ds.length c8) ds)) rfl (by kernel_rfl) (by kernel_rfl) (by kernel_rfl) (fun _ _ _ h => h) ?_ ?_
          rotate_left
          · first | (refine Or.inl ⟨by rfl, fun W hS => detR_value (w' := W) ?_ (Below.refl _ _)⟩; obtain ⟨⟨hH, q1⟩, q2⟩ := hS; obtain ⟨x0, x1, x2, x3, _⟩ := hH.1; go_simp; first | done | with_reducible rfl) | fail
          simp only [Act.put, List.setIfInBounds_toArray, List.set_cons_zero, List.set_cons_succ]
          refine takeW (i := 11) (v := ?_) (Stable.and (Stable.and (Stable.held _ _) (stable_blkN (w.heap.size + 1) 61 4)) (stable_fi (w.heap.size + 1 + 1) (.slice A7 rs.length c7) rs (.slice A8 ds.length c8) ds)) rfl (by kernel_rfl) (by kernel_rfl) (by kernel_rfl) (fun _ _ _ h => h) ?_ ?_
          rotate_left
          · first | (refine Or.inl ⟨by rfl, fun W hS => detR_value (w' := W) ?_ (Below.refl _ _)⟩; obtain ⟨⟨hH, q1⟩, q2⟩ := hS; obtain ⟨x0, x1, x2, x3, _⟩ := hH.1; go_simp; first | done | with_reducible rfl) | fail
          simp only [Act.put, List.setIfInBounds_toArray, List.set_cons_zero, List.set_cons_succ]
          refine takeW (i := 12) (v := ?_) (Stable.and (Stable.and (Stable.held _ _) (stable_blkN (w.heap.size + 1) 61 4)) (stable_fi (w.heap.size + 1 + 1) (.slice A7 rs.length c7) rs (.slice A8 ds.length c8) ds)) rfl (by kernel_rfl) (by kernel_rfl) (by kernel_rfl) (fun _ _ _ h => h) ?_ ?_
          rotate_left
          · first | (refine Or.inr ⟨by rfl, ?_⟩; with_reducible rfl) | (refine Or.inl ⟨by rfl, fun W hS => detR_value (w' := W) ?_ (Below.refl _ _)⟩; obtain ⟨⟨hH, q1⟩, q2⟩ := hS; obtain ⟨x0, x1, x2, x3, _⟩ := hH.1; go_simp; first | done | with_reducible rfl) | fail
          simp only [Act.put, List.setIfInBounds_toArray, List.set_cons_zero, List.set_cons_succ]
          refine takeW (i := 13) (v := ?_) (Stable.and (Stable.and (Stable.held _ _) (stable_blkN (w.heap.size + 1) 61 4)) (stable_fi (w.heap.size + 1 + 1) (.slice A7 rs.length c7) rs (.slice A8 ds.length c8) ds)) rfl (by kernel_rfl) (by kernel_rfl) (by kernel_rfl) (fun _ _ _ h => h) ?_ ?_
          rotate_left
          · first | (refine Or.inr ⟨by rfl, ?_⟩; with_reducible rfl) | (refine Or.inl ⟨by rfl, fun W hS => detR_value (w' := W) ?_ (Below.refl _ _)⟩; obtain ⟨⟨hH, q1⟩, q2⟩ := hS; obtain ⟨x0, x1, x2, x3, _⟩ := hH.1; go_simp; first | done | with_reducible rfl) | fail
          simp only [Act.put, List.setIfInBounds_toArray, List.set_cons_zero, List.set_cons_succ]
          refine takeW (i := 14) (v := ?_) (Stable.and (Stable.and (Stable.held _ _) (stable_blkN (w.heap.size + 1) 61 4)) (stable_fi (w.heap.size + 1 + 1) (.slice A7 rs.length c7) rs (.slice A8 ds.length c8) ds)) rfl (by kernel_rfl) (by kernel_rfl) (by kernel_rfl) (fun _ _ _ h => h) ?_ ?_
          rotate_left
          · first | (refine Or.inl ⟨by rfl, fun W hS => detR_value (w' := W) ?_ (Below.refl _ _)⟩; obtain ⟨⟨hH, q1⟩, q2⟩ := hS; obtain ⟨x0, x1, x2, x3, _⟩ := hH.1; go_simp; first | done | with_reducible rfl) | fail
          simp only [Act.put, List.setIfInBounds_toArray, List.set_cons_zero, List.set_cons_succ]
          refine storeK (i := 15) (b := w.heap.size + 1) #[.slice A ns.length c, .slice A2 ls.length c2, .slice A7 rs.length c7, .slice A8 ds.length c8] (Stable.and (Stable.and (Stable.held _ _) (stable_blkN (w.heap.size + 1) 61 4)) (stable_fi (w.heap.size + 1 + 1) (.slice A7 rs.length c7) rs (.slice A8 ds.length c8) ds)) (fun W hS => by obtain ⟨⟨hH, q1⟩, q2⟩ := hS; exact q1) (fun W hS => by obtain ⟨⟨hH, q1⟩, q2⟩ := hS; exact ⟨⟨hH.setRowAt (by simp; omega) (Nat.le_succ _) _, q1.setRow rfl⟩, q2.setRow (Nat.lt_succ_self _) _⟩) rfl (by kernel_rfl) (by rfl) rfl (by rfl) (by rfl) rfl (by kernel_rfl) (by simp [Value.oneCell']) ?_
          simp only [Act.put, List.setIfInBounds_toArray, List.set_cons_zero, List.set_cons_succ]
          refine takeW (i := 16) (v := ?_) (Stable.and (Stable.and (Stable.and (Stable.held _ _) (stable_blkN (w.heap.size + 1) 61 4)) (stable_fi (w.heap.size + 1 + 1) (.slice A7 rs.length c7) rs (.slice A8 ds.length c8) ds)) (stable_blkIs _ _ _)) rfl (by kernel_rfl) (by kernel_rfl) (by kernel_rfl) (fun _ _ _ h => h) ?_ ?_
          rotate_left
          · first | (refine Or.inl ⟨by rfl, fun W hS => detR_value (w' := W) ?_ (Below.refl _ _)⟩; obtain ⟨⟨⟨hH, q1⟩, q2⟩, hs⟩ := hS; obtain ⟨x0, x1, x2, x3, _⟩ := hH.1; go_simp; first | done | with_reducible rfl) | fail
          simp only [Act.put, List.setIfInBounds_toArray, List.set_cons_zero, List.set_cons_succ]
          refine doneW (by kernel_rfl) fun wH7 HG => ?_
          obtain ⟨⟨⟨hH, q1⟩, q2⟩, hs⟩ := HG
          have H7 := Lib.hid hH; clear hH
          have MH7_q1 := Lib.hid q1; clear q1
          have MH7_q2 := Lib.hid q2; clear q2
          have MH7_s := Lib.hid hs; clear hs
          try clear x0 x1 x2 x3
          have r0 := (cell_of_cells (k := 0) MH7_s.out).trans (rfl : _ = some (Value.slice A ns.length c))
          have r1 := (cell_of_cells (k := 1) MH7_s.out).trans (rfl : _ = some (Value.slice A2 ls.length c2))
          have r2 := (cell_of_cells (k := 2) MH7_s.out).trans (rfl : _ = some (Value.slice A7 rs.length c7))
          have r3 := (cell_of_cells (k := 3) MH7_s.out).trans (rfl : _ = some (Value.slice A8 ds.length c8))
          go_wp2_with fail
          refine bodyPost_ret (v := .tuple #[.agg #[.slice A ns.length c, .slice A2 ls.length c2, .slice A7 rs.length c7, .slice A8 ds.length c8], .bool false]) (by simp [results, Tryz.results43, go_sem, r0, r1, r2, r3]) rfl ⟨_, _, _, _, by first | (rw [HRES.out]; done) | (rw [HRES.out]; rfl), ?_, ?_, ?_, ?_, H7.out.below⟩
          · rw [HGN.out]; exact HN.out.step H7.out.below
          · rw [HGL2.out]; exact HL.out.step H7.out.below
          · rw [HWF.out]; exact MH7_q2.out.f.mono (by omega)
          · rw [HGA.out]; exact MH7_q2.out.a.mono (by omega)
        · refine regionW (fun W => ((Held _ W [(w1.heap.size, 0, .slice A ns.length c), (w1.heap.size, 1, .slice A2 ls.length c2), (w1.heap.size, 2, .slice A7 rs.length c7), (w1.heap.size, 3, .slice A8 ds.length c8)]) ∧ BlkN (w.heap.size + 1) 61 4 W) ∧ FI (w.heap.size + 1 + 1) (.slice A7 rs.length c7) rs (.slice A8 ds.length c8) ds W) (by kernel_rfl) ⟨⟨H8.out.drew, HK9.out⟩, (FI9.out).step ((Below.refl _ _).drew)⟩ ?_
          refine takeW (i := 0) (v := ?_) (Stable.and (Stable.and (Stable.held _ _) (stable_blkN (w.heap.size + 1) 61 4)) (stable_fi (w.heap.size + 1 + 1) (.slice A7 rs.length c7) rs (.slice A8 ds.length c8) ds)) rfl (by kernel_rfl) (by kernel_rfl) (by kernel_rfl) (fun _ _ _ h => h) ?_ ?_
          rotate_left
          · first | (refine Or.inl ⟨by rfl, fun W hS => detR_value (w' := W) ?_ (Below.refl _ _)⟩; obtain ⟨⟨hH, q1⟩, q2⟩ := hS; obtain ⟨x0, x1, x2, x3, _⟩ := hH.1; go_simp; first | done | with_reducible rfl) | fail
          simp only [Act.put, List.setIfInBounds_toArray, List.set_cons_zero, List.set_cons_succ]
          refine takeW (i := 1) (v := ?_) (Stable.and (Stable.and (Stable.held _ _) (stable_blkN (w.heap.size + 1) 61 4)) (stable_fi (w.heap.size + 1 + 1) (.slice A7 rs.length c7) rs (.slice A8 ds.length c8) ds)) rfl (by kernel_rfl) (by kernel_rfl) (by kernel_rfl) (fun _ _ _ h => h) ?_ ?_
          rotate_left
          · first | (refine Or.inl ⟨by rfl, fun W hS => detR_value (w' := W) ?_ (Below.refl _ _)⟩; obtain ⟨⟨hH, q1⟩, q2⟩ := hS; obtain ⟨x0, x1, x2, x3, _⟩ := hH.1; go_simp; first | done | with_reducible rfl) | fail
          simp only [Act.put, List.setIfInBounds_toArray, List.set_cons_zero, List.set_cons_succ]
          refine takeW (i := 2) (v := ?_) (Stable.and (Stable.and (Stable.held _ _) (stable_blkN (w.heap.size + 1) 61 4)) (stable_fi (w.heap.size + 1 + 1) (.slice A7 rs.length c7) rs (.slice A8 ds.length c8) ds)) rfl (by kernel_rfl) (by kernel_rfl) (by kernel_rfl) (fun _ _ _ h => h) ?_ ?_
          rotate_left
          · first | (refine Or.inl ⟨by rfl, fun W hS => detR_value (w' := W) ?_ (Below.refl _ _)⟩; obtain ⟨⟨hH, q1⟩, q2⟩ := hS; obtain ⟨x0, x1, x2, x3, _⟩ := hH.1; go_simp; first | done | with_reducible rfl) | fail
          simp only [Act.put, List.setIfInBounds_toArray, List.set_cons_zero, List.set_cons_succ]
          refine takeW (i := 3) (v := ?_) (Stable.and (Stable.and (Stable.held _ _) (stable_blkN (w.heap.size + 1) 61 4)) (stable_fi (w.heap.size + 1 + 1) (.slice A7 rs.length c7) rs (.slice A8 ds.length c8) ds)) rfl (by kernel_rfl) (by kernel_rfl) (by kernel_rfl) (fun _ _ _ h => h) ?_ ?_
          rotate_left
          · first | (refine Or.inr ⟨by rfl, ?_⟩; with_reducible rfl) | (refine Or.inl ⟨by rfl, fun W hS => detR_value (w' := W) ?_ (Below.refl _ _)⟩; obtain ⟨⟨hH, q1⟩, q2⟩ := hS; obtain ⟨x0, x1, x2, x3, _⟩ := hH.1; go_simp; first | done | with_reducible rfl) | fail
          simp only [Act.put, List.setIfInBounds_toArray, List.set_cons_zero, List.set_cons_succ]
          refine takeW (i := 4) (v := ?_) (Stable.and (Stable.and (Stable.held _ _) (stable_blkN (w.heap.size + 1) 61 4)) (stable_fi (w.heap.size + 1 + 1) (.slice A7 rs.length c7) rs (.slice A8 ds.length c8) ds)) rfl (by kernel_rfl) (by kernel_rfl) (by kernel_rfl) (fun _ _ _ h => h) ?_ ?_
          rotate_left
          · first | (refine Or.inr ⟨by rfl, ?_⟩; with_reducible rfl) | (refine Or.inl ⟨by rfl, fun W hS => detR_value (w' := W) ?_ (Below.refl _ _)⟩; obtain ⟨⟨hH, q1⟩, q2⟩ := hS; obtain ⟨x0, x1, x2, x3, _⟩ := hH.1; go_simp; first | done | with_reducible rfl) | fail
          simp only [Act.put, List.setIfInBounds_toArray, List.set_cons_zero, List.set_cons_succ]
          refine takeW (i := 5) (v := ?_) (Stable.and (Stable.and (Stable.held _ _) (stable_blkN (w.heap.size + 1) 61 4)) (stable_fi (w.heap.size + 1 + 1) (.slice A7 rs.length c7) rs (.slice A8 ds.length c8) ds)) rfl (by kernel_rfl) (by kernel_rfl) (by kernel_rfl) (fun _ _ _ h => h) ?_ ?_
          rotate_left
          · first | (refine Or.inr ⟨by rfl, ?_⟩; with_reducible rfl) | (refine Or.inl ⟨by rfl, fun W hS => ?_⟩; obtain ⟨⟨hH, q1⟩, q2⟩ := hS; refine detR_call (w' := W) (f := ?_) (args := ?_) ?_ ?_; rotate_left 2; (go_simp; (refine ⟨?_, ?_⟩ <;> with_reducible rfl)); (first | (with_reducible refine (HT.out _ _ _ _ _ _ _ _ _ _ _ _ hH.below).mono ?_) | fail); (first | (rintro e wn ⟨rfl, hb⟩; refine ⟨?_, hb⟩; with_reducible rfl) | (rintro e wn ⟨rfl, rfl⟩; refine ⟨?_, Below.refl _ _⟩; with_reducible rfl) | fail)) | fail
          simp only [Act.put, List.setIfInBounds_toArray, List.set_cons_zero, List.set_cons_succ]
          refine takeW (i := 6) (v := ?_) (Stable.and (Stable.and (Stable.held _ _) (stable_blkN (w.heap.size + 1) 61 4)) (stable_fi (w.heap.size + 1 + 1) (.slice A7 rs.length c7) rs (.slice A8 ds.length c8) ds)) rfl (by kernel_rfl) (by kernel_rfl) (by kernel_rfl) (fun _ _ _ h => h) ?_ ?_
          rotate_left
          · first | (refine Or.inl ⟨by rfl, fun W hS => detR_value (w' := W) ?_ (Below.refl _ _)⟩; obtain ⟨⟨hH, q1⟩, q2⟩ := hS; obtain ⟨x0, x1, x2, x3, _⟩ := hH.1; go_simp; first | done | with_reducible rfl) | fail
          simp only [Act.put, List.setIfInBounds_toArray, List.set_cons_zero, List.set_cons_succ]
          refine takeW (i := 7) (v := ?_) (Stable.and (Stable.and (Stable.held _ _) (stable_blkN (w.heap.size + 1) 61 4)) (stable_fi (w.heap.size + 1 + 1) (.slice A7 rs.length c7) rs (.slice A8 ds.length c8) ds)) rfl (by kernel_rfl) (by kernel_rfl) (by kernel_rfl) (fun _ _ _ h => h) ?_ ?_
          rotate_left
          · first | (refine Or.inl ⟨by rfl, fun W hS => detR_value (w' := W) ?_ (Below.refl _ _)⟩; obtain ⟨⟨hH, q1⟩, q2⟩ := hS; obtain ⟨x0, x1, x2, x3, _⟩ := hH.1; go_simp; first | done | with_reducible rfl) | fail
          simp only [Act.put, List.setIfInBounds_toArray, List.set_cons_zero, List.set_cons_succ]
          refine takeW (i := 8) (v := ?_) (Stable.and (Stable.and (Stable.held _ _) (stable_blkN (w.heap.size + 1) 61 4)) (stable_fi (w.heap.size + 1 + 1) (.slice A7 rs.length c7) rs (.slice A8 ds.length c8) ds)) rfl (by kernel_rfl) (by kernel_rfl) (by kernel_rfl) (fun _ _ _ h => h) ?_ ?_
          rotate_left
          · first | (refine Or.inr ⟨by rfl, ?_⟩; with_reducible rfl) | (refine Or.inl ⟨by rfl, fun W hS => detR_value (w' := W) ?_ (Below.refl _ _)⟩; obtain ⟨⟨hH, q1⟩, q2⟩ := hS; obtain ⟨x0, x1, x2, x3, _⟩ := hH.1; go_simp; first | done | with_reducible rfl) | fail
          simp only [Act.put, List.setIfInBounds_toArray, List.set_cons_zero, List.set_cons_succ]
          refine takeW (i := 9) (v := ?_) (Stable.and (Stable.and (Stable.held _ _) (stable_blkN (w.heap.size + 1) 61 4)) (stable_fi (w.heap.size + 1 + 1) (.slice A7 rs.length c7) rs (.slice A8 ds.length c8) ds)) rfl (by kernel_rfl) (by kernel_rfl) (by kernel_rfl) (fun _ _ _ h => h) ?_ ?_
          rotate_left
          · first | (refine Or.inr ⟨by rfl, ?_⟩; with_reducible rfl) | (refine Or.inl ⟨by rfl, fun W hS => detR_value (w' := W) ?_ (Below.refl _ _)⟩; obtain ⟨⟨hH, q1⟩, q2⟩ := hS; obtain ⟨x0, x1, x2, x3, _⟩ := hH.1; go_simp; first | done | with_reducible rfl) | fail
          simp only [Act.put, List.setIfInBounds_toArray, List.set_cons_zero, List.set_cons_succ]
          refine takeW (i := 10) (v := ?_) (Stable.and (Stable.and (Stable.held _ _) (stable_blkN (w.heap.size + 1) 61 4)) (stable_fi (w.heap.size + 1 + 1) (.slice A7 rs.length c7) rs (.slice A8 ds.length c8) ds)) rfl (by kernel_rfl) (by kernel_rfl) (by kernel_rfl) (fun _ _ _ h => h) ?_ ?_
          rotate_left
          · first | (refine Or.inl ⟨by rfl, fun W hS => detR_value (w' := W) ?_ (Below.refl _ _)⟩; obtain ⟨⟨hH, q1⟩, q2⟩ := hS; obtain ⟨x0, x1, x2, x3, _⟩ := hH.1; go_simp; first | done | with_reducible rfl) | fail
          simp only [Act.put, List.setIfInBounds_toArray, List.set_cons_zero, List.set_cons_succ]
          refine takeW (i := 11) (v := ?_) (Stable.and (Stable.and (Stable.held _ _) (stable_blkN (w.heap.size + 1) 61 4)) (stable_fi (w.heap.size + 1 + 1) (.slice A7 rs.length c7) rs (.slice A8 ds.length c8) ds)) rfl (by kernel_rfl) (by kernel_rfl) (by kernel_rfl) (fun _ _ _ h => h) ?_ ?_
          rotate_left
          · first | (refine Or.inl ⟨by rfl, fun W hS => detR_value (w' := W) ?_ (Below.refl _ _)⟩; obtain ⟨⟨hH, q1⟩, q2⟩ := hS; obtain ⟨x0, x1, x2, x3, _⟩ := hH.1; go_simp; first | done | with_reducible rfl) | fail
          simp only [Act.put, List.setIfInBounds_toArray, List.set_cons_zero, List.set_cons_succ]
          refine takeW (i := 12) (v := ?_) (Stable.and (Stable.and (Stable.held _ _) (stable_blkN (w.heap.size + 1) 61 4)) (stable_fi (w.heap.size + 1 + 1) (.slice A7 rs.length c7) rs (.slice A8 ds.length c8) ds)) rfl (by kernel_rfl) (by kernel_rfl) (by kernel_rfl) (fun _ _ _ h => h) ?_ ?_
          rotate_left
          · first | (refine Or.inr ⟨by rfl, ?_⟩; with_reducible rfl) | (refine Or.inl ⟨by rfl, fun W hS => detR_value (w' := W) ?_ (Below.refl _ _)⟩; obtain ⟨⟨hH, q1⟩, q2⟩ := hS; obtain ⟨x0, x1, x2, x3, _⟩ := hH.1; go_simp; first | done | with_reducible rfl) | fail
          simp only [Act.put, List.setIfInBounds_toArray, List.set_cons_zero, List.set_cons_succ]
          refine takeW (i := 13) (v := ?_) (Stable.and (Stable.and (Stable.held _ _) (stable_blkN (w.heap.size + 1) 61 4)) (stable_fi (w.heap.size + 1 + 1) (.slice A7 rs.length c7) rs (.slice A8 ds.length c8) ds)) rfl (by kernel_rfl) (by kernel_rfl) (by kernel_rfl) (fun _ _ _ h => h) ?_ ?_
          rotate_left
          · first | (refine Or.inr ⟨by rfl, ?_⟩; with_reducible rfl) | (refine Or.inl ⟨by rfl, fun W hS => detR_value (w' := W) ?_ (Below.refl _ _)⟩; obtain ⟨⟨hH, q1⟩, q2⟩ := hS; obtain ⟨x0, x1, x2, x3, _⟩ := hH.1; go_simp; first | done | with_reducible rfl) | fail
          simp only [Act.put, List.setIfInBounds_toArray, List.set_cons_zero, List.set_cons_succ]
          refine takeW (i := 14) (v := ?_) (Stable.and (Stable.and (Stable.held _ _) (stable_blkN (w.heap.size + 1) 61 4)) (stable_fi (w.heap.size + 1 + 1) (.slice A7 rs.length c7) rs (.slice A8 ds.length c8) ds)) rfl (by kernel_rfl) (by kernel_rfl) (by kernel_rfl) (fun _ _ _ h => h) ?_ ?_
          rotate_left
          · first | (refine Or.inl ⟨by rfl, fun W hS => detR_value (w' := W) ?_ (Below.refl _ _)⟩; obtain ⟨⟨hH, q1⟩, q2⟩ := hS; obtain ⟨x0, x1, x2, x3, _⟩ := hH.1; go_simp; first | done | with_reducible rfl) | fail
          simp only [Act.put, List.setIfInBounds_toArray, List.set_cons_zero, List.set_cons_succ]
          refine storeK (i := 15) (b := w.heap.size + 1) #[.slice A ns.length c, .slice A2 ls.length c2, .slice A7 rs.length c7, .slice A8 ds.length c8] (Stable.and (Stable.and (Stable.held _ _) (stable_blkN (w.heap.size + 1) 61 4)) (stable_fi (w.heap.size + 1 + 1) (.slice A7 rs.length c7) rs (.slice A8 ds.length c8) ds)) (fun W hS => by obtain ⟨⟨hH, q1⟩, q2⟩ := hS; exact q1) (fun W hS => by obtain ⟨⟨hH, q1⟩, q2⟩ := hS; exact ⟨⟨hH.setRowAt (by simp; omega) (Nat.le_succ _) _, q1.setRow rfl⟩, q2.setRow (Nat.lt_succ_self _) _⟩) rfl (by kernel_rfl) (by rfl) rfl (by rfl) (by rfl) rfl (by kernel_rfl) (by simp [Value.oneCell']) ?_
          simp only [Act.put, List.setIfInBounds_toArray, List.set_cons_zero, List.set_cons_succ]
          refine takeW (i := 16) (v := ?_) (Stable.and (Stable.and (Stable.and (Stable.held _ _) (stable_blkN (w.heap.size + 1) 61 4)) (stable_fi (w.heap.size + 1 + 1) (.slice A7 rs.length c7) rs (.slice A8 ds.length c8) ds)) (stable_blkIs _ _ _)) rfl (by kernel_rfl) (by kernel_rfl) (by kernel_rfl) (fun _ _ _ h => h) ?_ ?_
          rotate_left
          · first | (refine Or.inl ⟨by rfl, fun W hS => detR_value (w' := W) ?_ (Below.refl _ _)⟩; obtain ⟨⟨⟨hH, q1⟩, q2⟩, hs⟩ := hS; obtain ⟨x0, x1, x2, x3, _⟩ := hH.1; go_simp; first | done | with_reducible rfl) | fail
          simp only [Act.put, List.setIfInBounds_toArray, List.set_cons_zero, List.set_cons_succ]
          refine doneW (by kernel_rfl) fun wH7 HG => ?_
          obtain ⟨⟨⟨hH, q1⟩, q2⟩, hs⟩ := HG
          have H7 := Lib.hid hH; clear hH
          have MH7_q1 := Lib.hid q1; clear q1
          have MH7_q2 := Lib.hid q2; clear q2
          have MH7_s := Lib.hid hs; clear hs
          try clear x0 x1 x2 x3
          have r0 := (cell_of_cells (k := 0) MH7_s.out).trans (rfl : _ = some (Value.slice A ns.length c))
          have r1 := (cell_of_cells (k := 1) MH7_s.out).trans (rfl : _ = some (Value.slice A2 ls.length c2))
          have r2 := (cell_of_cells (k := 2) MH7_s.out).trans (rfl : _ = some (Value.slice A7 rs.length c7))
          have r3 := (cell_of_cells (k := 3) MH7_s.out).trans (rfl : _ = some (Value.slice A8 ds.length c8))
          go_wp2_with fail
          refine bodyPost_ret (v := .tuple #[.agg #[.slice A ns.length c, .slice A2 ls.length c2, .slice A7 rs.length c7, .slice A8 ds.length c8], .bool true]) (by simp [results, Tryz.results43, go_sem, r0, r1, r2, r3]) rfl ⟨_, _, _, _, by first | (rw [HRES.out]; done) | (rw [HRES.out]; rfl), ?_, ?_, ?_, ?_, H7.out.below⟩
          · rw [HGN.out]; exact HN.out.step H7.out.below
          · rw [HGL2.out]; exact HL.out.step H7.out.below
          · rw [HWF.out]; exact MH7_q2.out.f.mono (by omega)
          · rw [HGA.out]; exact MH7_q2.out.a.mono (by omega)
  · have HGY := Lib.hid (fun w h1 h2 => implGlassNo ns ls vn vl w h1 h2 (by simpa using hh))
    unfold GlassNo at HGY
    have HGN := Lib.hid (show gN ns ls = [] from if_neg hh)
    have HGL2 := Lib.hid (show gL ns ls = [] from if_neg hh)
    have HGA := Lib.hid (show gA ns ls = [] from if_neg hh)
    have HWF := Lib.hid (show wF ns ls = [] from if_neg hh)
    unfold GlassL
    have HRES := Lib.hid (show wgB ns ls xs a = false from by unfold wgB listB; rw [show wholeB ns ls = false by simpa using hh]; rfl)
    generalize wgB ns ls xs a = res at *
    have HX0 : Hid True := Lib.hid True.intro
    generalize wF ns ls = wf at *
    generalize gA ns ls = ga at *
    generalize gN ns ls = gn at *
    generalize gL ns ls = gl at *
    clear hh
    obtain ⟨A, c, rfl⟩ := prs_form2 hn
    obtain ⟨A2, c2, rfl⟩ := prs_form2 hl
    obtain ⟨A3, c3, rfl⟩ := seq_form2 hv
    clear hn hl hv
    go_enter Tryz.func43, Tryz.ntmps43
    go_wp2_with fail
    refine (HGY.out _ (HN.out.step H0.out.below) (HL.out.step H0.out.below)).mono ?_
    rintro e w1 ⟨rfl, hb⟩
    have H1 := Lib.hid (H0.out.step hb)
    have HB1 := Lib.hid (stable_blkN _ _ _ _ _ HB0.out hb)
    have hs1 := H1.out.2.1.1
    have H2 := Lib.hid (H1.out.new2 w1.heap.size rfl [.slice none 0 0, .slice none 0 0, .slice none 0 0, .slice none 0 0] 61)
    have H8 := Lib.hid (show Held w _ [(w1.heap.size, 0, .slice none 0 0), (w1.heap.size, 1, .slice none 0 0), (w1.heap.size, 2, .slice none 0 0), (w1.heap.size, 3, .slice none 0 0)] from H2.out.only (fun ⟨a, b, c, d, _⟩ => ⟨a, b, c, d, trivial⟩) (fun ⟨a, b, c, d, _⟩ => ⟨a, b, c, d, trivial⟩))
    have bq := below_alloc w1 (.cells #[.slice none 0 0, .slice none 0 0, .slice none 0 0, .slice none 0 0] 61)
    have HK9 := Lib.hid (stable_blkN _ _ _ _ _ HB1.out bq)
    clear hb bq H1 H2 HB0 HB1 H0 HGY
    obtain ⟨x0, x1, x2, x3, _⟩ := H8.out.1
    go_wp2_with fail
    generalize w1.alloc (.cells #[.slice none 0 0, .slice none 0 0, .slice none 0 0, .slice none 0 0] 61) = W8 at *
    obtain ⟨p, hp⟩ : ∃ p, decide (1 ≤ a) = p := ⟨_, rfl⟩
    obtain ⟨q, hq⟩ : ∃ q, decide (a ≤ 6) = q := ⟨_, rfl⟩
    refine regionW (fun W => (Held _ W [(w1.heap.size, 0, .slice none 0 0), (w1.heap.size, 1, .slice none 0 0), (w1.heap.size, 2, .slice none 0 0), (w1.heap.size, 3, .slice none 0 0)]) ∧ BlkN (w.heap.size + 1) 61 4 W) (by kernel_rfl) ⟨H8.out.drew, HK9.out⟩ ?_
    refine takeW (i := 0) (v := ?_) (Stable.and (Stable.held _ _) (stable_blkN (w.heap.size + 1) 61 4)) rfl (by kernel_rfl) (by kernel_rfl) (by kernel_rfl) (fun _ _ _ h => h) ?_ ?_
    rotate_left
    · first | (refine Or.inl ⟨by rfl, fun W hS => detR_value (w' := W) ?_ (Below.refl _ _)⟩; obtain ⟨hH, q1⟩ := hS; obtain ⟨x0, x1, x2, x3, _⟩ := hH.1; go_simp; first | done | with_reducible rfl) | fail
    simp only [Act.put, List.setIfInBounds_toArray, List.set_cons_zero, List.set_cons_succ]
    refine takeW (i := 1) (v := ?_) (Stable.and (Stable.held _ _) (stable_blkN (w.heap.size + 1) 61 4)) rfl (by kernel_rfl) (by kernel_rfl) (by kernel_rfl) (fun _ _ _ h => h) ?_ ?_
    rotate_left
    · first | (refine Or.inl ⟨by rfl, fun W hS => detR_value (w' := W) ?_ (Below.refl _ _)⟩; obtain ⟨hH, q1⟩ := hS; obtain ⟨x0, x1, x2, x3, _⟩ := hH.1; go_simp; first | done | with_reducible rfl) | fail
    simp only [Act.put, List.setIfInBounds_toArray, List.set_cons_zero, List.set_cons_succ]
    refine takeW (i := 2) (v := ?_) (Stable.and (Stable.held _ _) (stable_blkN (w.heap.size + 1) 61 4)) rfl (by kernel_rfl) (by kernel_rfl) (by kernel_rfl) (fun _ _ _ h => h) ?_ ?_
    rotate_left
    · first | (refine Or.inl ⟨by rfl, fun W hS => detR_value (w' := W) ?_ (Below.refl _ _)⟩; obtain ⟨hH, q1⟩ := hS; obtain ⟨x0, x1, x2, x3, _⟩ := hH.1; go_simp; first | done | with_reducible rfl) | fail
    simp only [Act.put, List.setIfInBounds_toArray, List.set_cons_zero, List.set_cons_succ]
    refine takeW (i := 3) (v := ?_) (Stable.and (Stable.held _ _) (stable_blkN (w.heap.size + 1) 61 4)) rfl (by kernel_rfl) (by kernel_rfl) (by kernel_rfl) (fun _ _ _ h => h) ?_ ?_
    rotate_left
    · first | (refine Or.inr ⟨by rfl, ?_⟩; with_reducible rfl) | (refine Or.inl ⟨by rfl, fun W hS => detR_value (w' := W) ?_ (Below.refl _ _)⟩; obtain ⟨hH, q1⟩ := hS; obtain ⟨x0, x1, x2, x3, _⟩ := hH.1; go_simp; first | done | with_reducible rfl) | fail
    simp only [Act.put, List.setIfInBounds_toArray, List.set_cons_zero, List.set_cons_succ]
    refine takeW (i := 4) (v := ?_) (Stable.and (Stable.held _ _) (stable_blkN (w.heap.size + 1) 61 4)) rfl (by kernel_rfl) (by kernel_rfl) (by kernel_rfl) (fun _ _ _ h => h) ?_ ?_
    rotate_left
    · first | (refine Or.inr ⟨by rfl, ?_⟩; with_reducible rfl) | (refine Or.inl ⟨by rfl, fun W hS => detR_value (w' := W) ?_ (Below.refl _ _)⟩; obtain ⟨hH, q1⟩ := hS; obtain ⟨x0, x1, x2, x3, _⟩ := hH.1; go_simp; first | done | with_reducible rfl) | fail
    simp only [Act.put, List.setIfInBounds_toArray, List.set_cons_zero, List.set_cons_succ]
    refine takeW (i := 5) (v := ?_) (Stable.and (Stable.held _ _) (stable_blkN (w.heap.size + 1) 61 4)) rfl (by kernel_rfl) (by kernel_rfl) (by kernel_rfl) (fun _ _ _ h => h) ?_ ?_
    rotate_left
    · first | (refine Or.inr ⟨by rfl, ?_⟩; with_reducible rfl) | (refine Or.inl ⟨by rfl, fun W hS => ?_⟩; obtain ⟨hH, q1⟩ := hS; refine detR_call (w' := W) (f := ?_) (args := ?_) ?_ ?_; rotate_left 2; (go_simp; (refine ⟨?_, ?_⟩ <;> with_reducible rfl)); (first | (with_reducible refine (HT.out _ _ _ _ _ _ _ _ _ _ _ _ hH.below).mono ?_) | fail); (first | (rintro e wn ⟨rfl, hb⟩; refine ⟨?_, hb⟩; with_reducible rfl) | (rintro e wn ⟨rfl, rfl⟩; refine ⟨?_, Below.refl _ _⟩; with_reducible rfl) | fail)) | fail
    simp only [Act.put, List.setIfInBounds_toArray, List.set_cons_zero, List.set_cons_succ]
    refine takeW (i := 6) (v := ?_) (Stable.and (Stable.held _ _) (stable_blkN (w.heap.size + 1) 61 4)) rfl (by kernel_rfl) (by kernel_rfl) (by kernel_rfl) (fun _ _ _ h => h) ?_ ?_
    rotate_left
    · first | (refine Or.inl ⟨by rfl, fun W hS => detR_value (w' := W) ?_ (Below.refl _ _)⟩; obtain ⟨hH, q1⟩ := hS; obtain ⟨x0, x1, x2, x3, _⟩ := hH.1; go_simp; first | done | with_reducible rfl) | fail
    simp only [Act.put, List.setIfInBounds_toArray, List.set_cons_zero, List.set_cons_succ]
    refine takeW (i := 7) (v := ?_) (Stable.and (Stable.held _ _) (stable_blkN (w.heap.size + 1) 61 4)) rfl (by kernel_rfl) (by kernel_rfl) (by kernel_rfl) (fun _ _ _ h => h) ?_ ?_
    rotate_left
    · first | (refine Or.inl ⟨by rfl, fun W hS => detR_value (w' := W) ?_ (Below.refl _ _)⟩; obtain ⟨hH, q1⟩ := hS; obtain ⟨x0, x1, x2, x3, _⟩ := hH.1; go_simp; first | done | with_reducible rfl) | fail
    simp only [Act.put, List.setIfInBounds_toArray, List.set_cons_zero, List.set_cons_succ]
    refine takeW (i := 8) (v := ?_) (Stable.and (Stable.held _ _) (stable_blkN (w.heap.size + 1) 61 4)) rfl (by kernel_rfl) (by kernel_rfl) (by kernel_rfl) (fun _ _ _ h => h) ?_ ?_
    rotate_left
    · first | (refine Or.inr ⟨by rfl, ?_⟩; with_reducible rfl) | (refine Or.inl ⟨by rfl, fun W hS => detR_value (w' := W) ?_ (Below.refl _ _)⟩; obtain ⟨hH, q1⟩ := hS; obtain ⟨x0, x1, x2, x3, _⟩ := hH.1; go_simp; first | done | with_reducible rfl) | fail
    simp only [Act.put, List.setIfInBounds_toArray, List.set_cons_zero, List.set_cons_succ]
    refine takeW (i := 9) (v := ?_) (Stable.and (Stable.held _ _) (stable_blkN (w.heap.size + 1) 61 4)) rfl (by kernel_rfl) (by kernel_rfl) (by kernel_rfl) (fun _ _ _ h => h) ?_ ?_
    rotate_left
    · first | (refine Or.inr ⟨by rfl, ?_⟩; with_reducible rfl) | (refine Or.inl ⟨by rfl, fun W hS => detR_value (w' := W) ?_ (Below.refl _ _)⟩; obtain ⟨hH, q1⟩ := hS; obtain ⟨x0, x1, x2, x3, _⟩ := hH.1; go_simp; first | done | with_reducible rfl) | fail
    simp only [Act.put, List.setIfInBounds_toArray, List.set_cons_zero, List.set_cons_succ]
    refine takeW (i := 10) (v := ?_) (Stable.and (Stable.held _ _) (stable_blkN (w.heap.size + 1) 61 4)) rfl (by kernel_rfl) (by kernel_rfl) (by kernel_rfl) (fun _ _ _ h => h) ?_ ?_
    rotate_left
    · first | (refine Or.inl ⟨by rfl, fun W hS => detR_value (w' := W) ?_ (Below.refl _ _)⟩; obtain ⟨hH, q1⟩ := hS; obtain ⟨x0, x1, x2, x3, _⟩ := hH.1; go_simp; first | done | with_reducible rfl) | fail
    simp only [Act.put, List.setIfInBounds_toArray, List.set_cons_zero, List.set_cons_succ]
    refine takeW (i := 11) (v := ?_) (Stable.and (Stable.held _ _) (stable_blkN (w.heap.size + 1) 61 4)) rfl (by kernel_rfl) (by kernel_rfl) (by kernel_rfl) (fun _ _ _ h => h) ?_ ?_
    rotate_left
    · first | (refine Or.inl ⟨by rfl, fun W hS => detR_value (w' := W) ?_ (Below.refl _ _)⟩; obtain ⟨hH, q1⟩ := hS; obtain ⟨x0, x1, x2, x3, _⟩ := hH.1; go_simp; first | done | with_reducible rfl) | fail
    simp only [Act.put, List.setIfInBounds_toArray, List.set_cons_zero, List.set_cons_succ]
    refine takeW (i := 12) (v := ?_) (Stable.and (Stable.held _ _) (stable_blkN (w.heap.size + 1) 61 4)) rfl (by kernel_rfl) (by kernel_rfl) (by kernel_rfl) (fun _ _ _ h => h) ?_ ?_
    rotate_left
    · first | (refine Or.inr ⟨by rfl, ?_⟩; with_reducible rfl) | (refine Or.inl ⟨by rfl, fun W hS => detR_value (w' := W) ?_ (Below.refl _ _)⟩; obtain ⟨hH, q1⟩ := hS; obtain ⟨x0, x1, x2, x3, _⟩ := hH.1; go_simp; first | done | with_reducible rfl) | fail
    simp only [Act.put, List.setIfInBounds_toArray, List.set_cons_zero, List.set_cons_succ]
    refine takeW (i := 13) (v := ?_) (Stable.and (Stable.held _ _) (stable_blkN (w.heap.size + 1) 61 4)) rfl (by kernel_rfl) (by kernel_rfl) (by kernel_rfl) (fun _ _ _ h => h) ?_ ?_
    rotate_left
    · first | (refine Or.inr ⟨by rfl, ?_⟩; with_reducible rfl) | (refine Or.inl ⟨by rfl, fun W hS => detR_value (w' := W) ?_ (Below.refl _ _)⟩; obtain ⟨hH, q1⟩ := hS; obtain ⟨x0, x1, x2, x3, _⟩ := hH.1; go_simp; first | done | with_reducible rfl) | fail
    simp only [Act.put, List.setIfInBounds_toArray, List.set_cons_zero, List.set_cons_succ]
    refine takeW (i := 14) (v := ?_) (Stable.and (Stable.held _ _) (stable_blkN (w.heap.size + 1) 61 4)) rfl (by kernel_rfl) (by kernel_rfl) (by kernel_rfl) (fun _ _ _ h => h) ?_ ?_
    rotate_left
    · first | (refine Or.inl ⟨by rfl, fun W hS => detR_value (w' := W) ?_ (Below.refl _ _)⟩; obtain ⟨hH, q1⟩ := hS; obtain ⟨x0, x1, x2, x3, _⟩ := hH.1; go_simp; first | done | with_reducible rfl) | fail
    simp only [Act.put, List.setIfInBounds_toArray, List.set_cons_zero, List.set_cons_succ]
    refine storeK (i := 15) (b := w.heap.size + 1) #[.slice none 0 0, .slice none 0 0, .slice none 0 0, .slice none 0 0] (Stable.and (Stable.held _ _) (stable_blkN (w.heap.size + 1) 61 4)) (fun W hS => by obtain ⟨hH, q1⟩ := hS; exact q1) (fun W hS => by obtain ⟨hH, q1⟩ := hS; exact ⟨hH.setRowAt (by simp; omega) (Nat.le_succ _) _, q1.setRow rfl⟩) rfl (by kernel_rfl) (by rfl) rfl (by rfl) (by rfl) rfl (by kernel_rfl) (by simp [Value.oneCell']) ?_
    simp only [Act.put, List.setIfInBounds_toArray, List.set_cons_zero, List.set_cons_succ]
    refine takeW (i := 16) (v := ?_) (Stable.and (Stable.and (Stable.held _ _) (stable_blkN (w.heap.size + 1) 61 4)) (stable_blkIs _ _ _)) rfl (by kernel_rfl) (by kernel_rfl) (by kernel_rfl) (fun _ _ _ h => h) ?_ ?_
    rotate_left
    · first | (refine Or.inl ⟨by rfl, fun W hS => detR_value (w' := W) ?_ (Below.refl _ _)⟩; obtain ⟨⟨hH, q1⟩, hs⟩ := hS; obtain ⟨x0, x1, x2, x3, _⟩ := hH.1; go_simp; first | done | with_reducible rfl) | fail
    simp only [Act.put, List.setIfInBounds_toArray, List.set_cons_zero, List.set_cons_succ]
    refine doneW (by kernel_rfl) fun wH7 HG => ?_
    obtain ⟨⟨hH, q1⟩, hs⟩ := HG
    have H7 := Lib.hid hH; clear hH
    have MH7_q1 := Lib.hid q1; clear q1
    have MH7_s := Lib.hid hs; clear hs
    try clear x0 x1 x2 x3
    have r0 := (cell_of_cells (k := 0) MH7_s.out).trans (rfl : _ = some (Value.slice none 0 0))
    have r1 := (cell_of_cells (k := 1) MH7_s.out).trans (rfl : _ = some (Value.slice none 0 0))
    have r2 := (cell_of_cells (k := 2) MH7_s.out).trans (rfl : _ = some (Value.slice none 0 0))
    have r3 := (cell_of_cells (k := 3) MH7_s.out).trans (rfl : _ = some (Value.slice none 0 0))
    go_wp2_with fail
    refine bodyPost_ret (v := .tuple #[.agg #[.slice none 0 0, .slice none 0 0, .slice none 0 0, .slice none 0 0], .bool false]) (by simp [results, Tryz.results43, go_sem, r0, r1, r2, r3]) rfl ⟨_, _, _, _, by first | (rw [HRES.out]; done) | (rw [HRES.out]; rfl), ?_, ?_, ?_, ?_, H7.out.below⟩
    · rw [HGN.out]; exact prs_nil _
    · rw [HGL2.out]; exact prs_nil _
    · rw [HWF.out]; exact Faces.nil _ _
    · rw [HGA.out]; exact Ints.nil _ _
end Go.Proofs.YtmcbbjobjogkmabGreat

namespace Go.Proofs.YtmcbbjobjogkmabGreat
open Go.RowKit
set_option linter.unusedVariables false
set_option linter.unusedSimpArgs false

/-- The first k wishes, and the rest open. -/
def wY (xs : List Int) (N k : Nat) : List Int := xs.take k ++ List.replicate (N - k) (-1)

section

variable {M : Nat → Nat → Bool} {N n k : Nat} {xs : List Int}

theorem wY_zero : wY xs N 0 = List.replicate N (-1) := by unfold wY; simp

theorem wY_full (hl : xs.length = N) : wY xs N N = xs := by unfold wY; simp [← hl]

theorem wY_len (hl : xs.length = N) (hk : k ≤ N) : (wY xs N k).length = N := by unfold wY; simp; omega

theorem wY_lo (hl : xs.length = N) {i : Nat} (h : i < k) (hk : k ≤ N) : atZ (wY xs N k) i = atZ xs i := by
  unfold atZ wY List.getD
  rw [List.getElem?_append_left (by simp; omega), List.getElem?_take, if_pos h]

theorem wY_hi (hl : xs.length = N) {i : Nat} (h : k ≤ i) (hi : i < N) : atZ (wY xs N k) i = -1 := by
  unfold atZ wY List.getD
  rw [List.getElem?_append_right (by simp; omega), List.getElem?_replicate, if_pos (by simp; omega)]
  rfl

theorem atZ_ext {a b : List Int} (hl : a.length = b.length) (h : ∀ i, i < a.length → atZ a i = atZ b i) : a = b := by
  refine List.ext_getElem hl fun i h1 h2 => ?_
  have := h i h1
  unfold atZ at this
  simpa [List.getD, h1, h2] using this

theorem wY_skip (hl : xs.length = N) (hk : k < N) (h : atZ xs k = -1) : wY xs N (k + 1) = wY xs N k := by
  refine atZ_ext (by rw [wY_len hl hk, wY_len hl (by omega)]) fun i hi => ?_
  rw [wY_len hl hk] at hi
  by_cases h1 : i < k
  · rw [wY_lo hl (by omega) hk, wY_lo hl h1 (by omega)]
  · by_cases h2 : i = k
    · subst h2; rw [wY_lo hl (Nat.lt_succ_self _) hk, h, wY_hi hl (Nat.le_refl _) hi]
    · rw [wY_hi hl (by omega) hi, wY_hi hl (by omega) hi]

theorem wY_set (hl : xs.length = N) (hk : k < N) : wY xs N (k + 1) = (wY xs N k).set k (atZ xs k) := by
  refine atZ_ext (by rw [List.length_set, wY_len hl hk, wY_len hl (by omega)]) fun i hi => ?_
  rw [wY_len hl hk] at hi
  rw [atZ_setI (by rw [wY_len hl (by omega)]; omega)]
  by_cases h1 : i < k
  · rw [if_neg (by omega), wY_lo hl (by omega) hk, wY_lo hl h1 (by omega)]
  · by_cases h2 : i = k
    · subst h2; rw [if_pos rfl, wY_lo hl (Nat.lt_succ_self _) hk]
    · rw [if_neg h2, wY_hi hl (by omega) hi, wY_hi hl (by omega) hi]

/-- The first k wishes stand one beside another in order. -/
def okW (M : Nat → Nat → Bool) (n : Nat) (xs : List Int) (k : Nat) : Prop := ∀ i, i < k → atZ xs i ≠ -1 → (∃ c : Nat, atZ xs i = c ∧ c < n) ∧ ∀ j, j < i → M i j = true → atZ xs j ≠ atZ xs i

theorem okW_zero : okW M n xs 0 := fun i hi => by omega

theorem okW_skip (h : okW M n xs k) (ho : atZ xs k = -1) : okW M n xs (k + 1) := fun i hi hne => by
  by_cases e : i = k
  · rw [e] at hne; exact absurd ho hne
  · exact h i (by omega) hne

theorem okW_prA (hsym : ∀ i j, M i j = M j i) (hirr : ∀ i, M i i = false) (h : okW M n xs N) : PrA M N n xs := fun i hi hne => by
  obtain ⟨⟨c, hc, hcn⟩, hd⟩ := h i hi hne
  refine ⟨⟨c, hc, hcn⟩, fun j hj hm => ?_⟩
  rcases Nat.lt_trichotomy j i with e | e | e
  · exact hd j e hm
  · rw [e, hirr] at hm; cases hm
  · by_cases ho : atZ xs j = -1
    · rw [ho, hc]; omega
    · exact fun e2 => (h j hj ho).2 i e (by rw [hsym]; exact hm) e2.symm

theorem prA_okW (h : PrA M N n xs) (hk : k ≤ N) : okW M n xs k := fun i hi hne => ⟨(h i (by omega) hne).1, fun j hj hm => (h i (by omega) hne).2 j (by omega) hm⟩

theorem free_wY (hirr : ∀ i, M i i = false) (hl : xs.length = N) (hk : k < N) {c : Nat} : freeJ (rowM M N k) (wY xs N k) c = true ↔ ∀ j, j < k → M k j = true → atZ xs j ≠ (c : Int) := by
  rw [freeJ_iff]
  constructor
  · intro h j hj hm
    have := h j (by omega) hm
    rwa [wY_lo hl hj (by omega)] at this
  · intro h j hj hm
    by_cases e : j < k
    · rw [wY_lo hl e (by omega)]; exact h j e hm
    · rw [wY_hi hl (by omega) hj]; omega

theorem has_wY (hirr : ∀ i, M i i = false) (hl : xs.length = N) (hk : k < N) {x : Int} : (chL (rowM M N k) (wY xs N k) n).contains x = true ↔ ∃ c : Nat, x = c ∧ c < n ∧ ∀ j, j < k → M k j = true → atZ xs j ≠ (c : Int) := by
  unfold chL
  rw [List.contains_iff_mem, fltN_mem]
  constructor
  · rintro ⟨c, h1, h2, h3⟩; exact ⟨c, h1, h2, (free_wY hirr hl hk).1 h3⟩
  · rintro ⟨c, h1, h2, h3⟩; exact ⟨c, h1, h2, (free_wY hirr hl hk).2 h3⟩

theorem okW_yes (hirr : ∀ i, M i i = false) (hl : xs.length = N) (hk : k < N) (h : okW M n xs k) (hc : (chL (rowM M N k) (wY xs N k) n).contains (atZ xs k) = true) : okW M n xs (k + 1) := fun i hi hne => by
  by_cases e : i = k
  · subst e
    obtain ⟨c, h1, h2, h3⟩ := (has_wY hirr hl hk).1 hc
    exact ⟨⟨c, h1, h2⟩, fun j hj hm => by rw [h1]; exact h3 j hj hm⟩
  · exact h i (by omega) hne

theorem okW_no (hirr : ∀ i, M i i = false) (hl : xs.length = N) (hk : k < N) (ho : atZ xs k ≠ -1) (hc : (chL (rowM M N k) (wY xs N k) n).contains (atZ xs k) = false) : ¬ PrA M N n xs := fun h => by
  obtain ⟨⟨c, h1, h2⟩, h3⟩ := h k hk ho
  have : (chL (rowM M N k) (wY xs N k) n).contains (atZ xs k) = true := (has_wY hirr hl hk).2 ⟨c, h1, h2, fun j hj hm => by rw [← h1]; exact h3 j (by omega) hm⟩
  rw [this] at hc; cases hc

theorem can_ord (hsym : ∀ i j, M i j = M j i) (hirr : ∀ i, M i i = false) (h : canB M N n xs = true) : PrA M N n xs := fun i hi hne => by
  obtain ⟨⟨c, hc, hcn⟩, hd⟩ := can_prA hsym hirr h i hi hne
  refine ⟨⟨c, hc, hcn⟩, fun j hj hm => ?_⟩
  by_cases ho : atZ xs j = -1
  · rw [ho, hc]; omega
  · exact hd j hj hm ho

end

open Classical in
/-- Whether the wishes stand in order. -/
noncomputable def prB (M : Nat → Nat → Bool) (N n : Nat) (xs : List Int) : Bool := decide (PrA M N n xs)

section

variable {M : Nat → Nat → Bool} {N n k : Nat} {xs : List Int}

theorem prB_iff : prB M N n xs = true ↔ PrA M N n xs := by unfold prB; simp

theorem prB_yes (hsym : ∀ i j, M i j = M j i) (hirr : ∀ i, M i i = false) (h : okW M n xs N) : prB M N n xs = true := prB_iff.2 (okW_prA hsym hirr h)

theorem prB_no (hirr : ∀ i, M i i = false) (hl : xs.length = N) (hk : k < N) (ho : atZ xs k ≠ -1) (hc : (chL (rowM M N k) (wY xs N k) n).contains (atZ xs k) = false) : prB M N n xs = false := by
  cases h : prB M N n xs
  · rfl
  · exact absurd (prB_iff.1 h) (okW_no hirr hl hk ho hc)

theorem can_prB (hsym : ∀ i j, M i j = M j i) (hirr : ∀ i, M i i = false) (h : prB M N n xs = false) : canB M N n xs = false := by
  cases e : canB M N n xs
  · rfl
  · rw [prB_iff.2 (can_ord hsym hirr e)] at h; cases h

/-- What search finds where something is given. -/
theorem srch_any (hsym : ∀ i j, M i j = M j i) (hirr : ∀ i, M i i = false) (hgl : xs.length = N) (hg : ∀ i, i < N → -1 ≤ atZ xs i) :
    (srch M xs n N []).isSome = canB M N n xs ∧ (srch M xs n N []).getD [] = finR M N n xs := by
  cases e : canB M N n xs
  · rw [srch_not hsym hirr hgl hg e, finR_no e]; exact ⟨rfl, rfl⟩
  · rw [srch_fin hsym hirr hgl hg (can_ord hsym hirr e), if_pos e, finR_yes e]; exact ⟨rfl, rfl⟩

end

def WshRet (b : Bool) (R : List (List Int)) (n : Nat) (xs : List Int) (w : World) (e : Ending) (w' : World) : Prop :=
  (b = true → ∃ vb vc us, e = .returned (.tuple #[.agg #[vb, vc, .int .i64 n], .bool true]) ∧ Cls w' w.heap.size vb vc us R xs) ∧ (b = false → e = .returned (.tuple #[.agg #[.slice none 0 0, .slice none 0 0, .int .i64 0], .bool false])) ∧ Below w.heap.size w w'

end Go.Proofs.YtmcbbjobjogkmabGreat

namespace Go.Proofs.YtmcbbjobjogkmabGreat
open Go.RowKit
set_option linter.unusedVariables false
set_option linter.unusedSimpArgs false

theorem containsV {w : World} {B : Nat} {v : Value} {xs : List Int} (x : Int) (h : Ints w B v xs) (hlen : xs.length ≤ 1048576) :
    Calls Tryz.prog 66 #[v, .int .i64 x] w (BoolIs (xs.contains x) w) := by
  obtain ⟨A, c, rfl, -⟩ := h.form
  by_cases h0 : xs.length = 0
  · obtain rfl : xs = [] := List.eq_nil_of_length_eq_zero h0
    exact containsNil x w A c
  · obtain ⟨g, c', e⟩ := h.some_ (by omega)
    simp only [Value.slice.injEq] at e
    obtain ⟨rfl, -, rfl⟩ := e
    exact (containsI x h hlen).mono fun e w' h => ⟨h.1, by rw [h.2]; exact Below.refl _ _⟩

set_option maxRecDepth 100000 in
set_option maxHeartbeats 4000000 in
theorem implWished (v1 v2 v3 v4 vx : Value) (rs : List (List Int)) (ds xs : List Int) (ns ls : List Nd) (B B2 n : Nat) (w : World) (hn : Prs w v1 ns) (hl : Prs w v2 ls) (hf : Faces w B v3 rs) (ha : Ints w B2 v4 ds) (hv : Seq w vx xs) (hk : ds.length = 2 * ls.length) (hd : ls.length ≤ 20) (hN : rs.length ≤ 13) (hxl : xs.length = rs.length) (h0 : 0 < rs.length) (hn6 : n ≤ 6) :
    Calls Tryz.prog 44 #[.agg #[v1, v2, v3, v4], .int .i64 n, vx] w (WshRet (prB (besM ds ls.length) rs.length n xs) (gath (rowM (besM ds ls.length) rs.length) rs.length) n xs w) := by
  have HBK := Lib.hid (fun W hb => implBlank v1 v2 v3 v4 rs ds ns ls B B2 n W (hn.step hb) (hl.step hb) (hf.step hb) (ha.step hb) hk hd (by omega))
  unfold BlankRet at HBK
  rw [besR] at HBK
  have HSYM := Lib.hid (besM_sym ds ls.length)
  have HIRR := Lib.hid (besM_irr ds ls.length)
  generalize besM ds ls.length = M at *
  have HRT := Lib.hid (rfl : WshRet (prB M rs.length n xs) (gath (rowM M rs.length) rs.length) n xs w = WshRet (prB M rs.length n xs) (gath (rowM M rs.length) rs.length) n xs w)
  have HV := Lib.hid hv
  obtain ⟨A, c, rfl⟩ := prs_form2 hn
  obtain ⟨A2, c2, rfl⟩ := prs_form2 hl
  obtain ⟨A3, c3, rfl⟩ := faces_form hf
  obtain ⟨A4, c4, rfl⟩ := ints_form ha
  obtain ⟨A5, c5, rfl⟩ := seq_form2 hv
  clear hn hl hf ha hv hk HRT
  generalize rs.length = N at *
  have HXL := Lib.hid hxl
  have HCH := Lib.hid (fun vb us ys cc (gc : Nat) k (hk : k < N) (hy : ys.length = N) B w h1 h2 => implChoices vb (.slice (some ⟨gc, 0, none⟩) ys.length cc) us (gath (rowM M N) N) ys n k B B w h1 h2 (by rw [gath_len]; exact hk) (fun j hj => by rw [gath_at _ hk] at hj ⊢; rw [hy]; exact rowM_lt hj) (by omega) (by rw [gath_at _ hk]; have := fltN_len (fun h => M k h) N; unfold rowM; omega) (by omega) (by rw [gath_len]; omega))
  have HYES := Lib.hid (fun h => prB_yes (M := M) (N := N) (n := n) (xs := xs) HSYM.out HIRR.out h)
  have HNO := Lib.hid (fun k hk ho hc => prB_no (M := M) (N := N) (n := n) (xs := xs) HIRR.out hxl (k := k) hk ho hc)
  have HZ := Lib.hid (wY_zero (xs := xs) (N := N))
  have HFU := Lib.hid (wY_full (xs := xs) hxl)
  have HLN := Lib.hid (fun k hk => wY_len (xs := xs) (k := k) hxl hk)
  have HSK := Lib.hid (fun k hk ho => wY_skip (xs := xs) (k := k) hxl hk ho)
  have HST := Lib.hid (fun k hk => wY_set (xs := xs) (k := k) hxl hk)
  have HO0 := Lib.hid (okW_zero (M := M) (n := n) (xs := xs))
  have HOS := Lib.hid (fun k h ho => okW_skip (M := M) (n := n) (xs := xs) (k := k) h ho)
  have HOY := Lib.hid (fun k hk h hc => okW_yes (M := M) (n := n) (xs := xs) (k := k) HIRR.out hxl hk h hc)
  have HGL : Hid ((gath (rowM M N) N).length = N) := Lib.hid (gath_len _ _)
  have HGA : Hid (∀ k, k < N → atR (gath (rowM M N) N) k = rowM M N k) := Lib.hid fun k hk => gath_at _ hk
  have HCN := Lib.hid (fun f ys => (show (chL (rowM M N f) ys n).length ≤ 6 from Nat.le_trans (fltN_len _ _) hn6))
  have HCH := Lib.hid (fun vb us ys cc (gc : Nat) k (hk : k < N) (hy : ys.length = N) B w h1 h2 => (show Calls Tryz.prog 62 #[.agg #[vb, .slice (some ⟨gc, 0, none⟩) ys.length cc, .int .i64 n], .int .i64 k] w (IntsNew (chL (rowM M N k) ys n) w) from by rw [← HGA.out k hk]; exact HCH.out vb us ys cc gc k hk hy B w h1 h2))
  unfold IntsNew at HCH
  generalize prB M N n xs = RB0 at *
  generalize okW M n xs = OK at *
  generalize wY xs N = Y at *
  generalize gath (rowM M N) N = GR at *
  clear hxl
  have H0 := Lib.hid ((Held.none_ w).new2 w.heap.size rfl [.slice A ns.length c, .slice A2 ls.length c2, .slice A3 N c3, .slice A4 ds.length c4] 61)
  have H1 := Lib.hid (H0.out.new2 (w.heap.size + 1) (by simp) [.slice none 0 0, .slice none 0 0, .int .i64 0] 65)
  have HF1 := Lib.hid (Frz.made (w.alloc (.cells #[.slice A ns.length c, .slice A2 ls.length c2, .slice A3 N c3, .slice A4 ds.length c4] 61)) #[.slice none 0 0, .slice none 0 0, .int .i64 0] 65 (w.heap.size + 1) (by simp))
  go_enter Tryz.func44, Tryz.ntmps44
  obtain ⟨x0, x1, x2, x3, x4, x5, x6, _⟩ := H1.out.1
  go_wp2_with fail
  refine (HBK.out _ H1.out.below).mono ?_
  rintro e w1 ⟨vb, vc, us, rfl, hcl, hb⟩
  have hs1 := H1.out.below.size
  have HC := Lib.hid (show Cls w1 (w.heap.size + 1 + 1) vb vc us GR (Y 0) from by rw [HZ.out]; simpa using hcl)
  have H2 := Lib.hid (H1.out.step hb)
  have hs2 := H2.out.2.1.2.2.2.2.1
  obtain ⟨gc, cc, rfl⟩ := HC.out.cols.some_ (by rw [HLN.out 0 (Nat.zero_le _)]; omega)
  rw [HLN.out 0 (Nat.zero_le _)] at HC ⊢
  obtain ⟨ab, cb, rfl, -⟩ := HC.out.rows.form
  rw [HGL.out] at HC ⊢
  have HF3 := Lib.hid ((HF1.out.step hb).step (below_alloc w1 (.cells #[.slice ab N cb, .slice (some ⟨gc, 0, none⟩) N cc, .int .i64 n] 65)))
  clear hcl hb hs1 HF1
  have hg := HC.out.cols.own gc rfl
  have H3 := Lib.hid ((H2.out.new2 w1.heap.size rfl [.slice ab N cb, .slice (some ⟨gc, 0, none⟩) N cc, .int .i64 n] 65))
  have HC3 := Lib.hid (HC.out.step (below_alloc w1 (.cells #[.slice ab N cb, .slice (some ⟨gc, 0, none⟩) N cc, .int .i64 n] 65)))
  clear x0 x1 x2 x3 x4 x5 x6 H0 H1 H2 HC
  obtain ⟨x0, x1, x2, x3, x4, x5, x6, x7, x8, x9, _⟩ := H3.out.1
  go_wp2_with fail
  have H4 := Lib.hid (show Held w _ [(w1.heap.size, 0, .slice ab N cb), (w1.heap.size, 1, .slice (some ⟨gc, 0, none⟩) N cc), (w1.heap.size, 2, .int .i64 n), (w.heap.size + 1, 0, .slice none 0 0), (w.heap.size + 1, 1, .slice none 0 0), (w.heap.size + 1, 2, .int .i64 0)] from H3.out.only (fun ⟨a, b, c, d, e, f, _⟩ => ⟨a, b, c, d, e, f, trivial⟩) (fun ⟨a, b, c, d, e, f, _⟩ => ⟨a, b, c, d, e, f, trivial⟩))
  clear H3 x0 x1 x2 x3 x4 x5 x6 x7 x8 x9
  go_loopw [16] (fun vk wr => ∃ k : Nat, k ≤ N ∧ vk = .int .i64 k ∧ OK k ∧ Cls wr (w.heap.size + 1 + 1) (.slice ab N cb) (.slice (some ⟨gc, 0, none⟩) N cc) us GR (Y k) ∧ Held w wr [(w1.heap.size, 0, .slice ab N cb), (w1.heap.size, 1, .slice (some ⟨gc, 0, none⟩) N cc), (w1.heap.size, 2, .int .i64 n), (w.heap.size + 1, 0, .slice none 0 0), (w.heap.size + 1, 1, .slice none 0 0), (w.heap.size + 1, 2, .int .i64 0)] ∧ Frz wr (w.heap.size + 1)) (fun vk _ => N - (intOf vk).toNat)
  case atStart => exact ⟨0, Nat.zero_le _, rfl, HO0.out, HC3.out, H4.out, HF3.out⟩
  case round =>
    clear H4 HC3 HF3
    obtain ⟨k, hk, rfl, hok, hcl, hh, hfz⟩ := hrel
    have HF := Lib.hid hfz; clear hfz
    have HOK := Lib.hid hok; clear hok
    have HC := Lib.hid hcl; clear hcl
    have H1 := Lib.hid hh; clear hh
    obtain ⟨x0, x1, x2, x3, x4, x5, _⟩ := H1.out.1
    by_cases hlt : k < N
    · have q1 : (k : Int) < (xs.length : Int) := by rw [HXL.out]; omega
      have q2 : k < xs.length := by rw [HXL.out]; omega
      have q3 : (k : Int) < (N : Int) := by omega
      have q0 : (0 : Int) ≤ k := by omega
      obtain ⟨b, o, rfl, hbl, hcs⟩ := seq_at (HV.out.step H1.out.below) k (by rw [HXL.out]; exact hlt)
      have z0 := hcs k (by rw [HXL.out]; exact hlt)
      clear hcs hbl
      have HSK1 := Lib.hid (HSK.out k hlt)
      have HST1 := Lib.hid (HST.out k hlt)
      have HOS1 := Lib.hid (HOS.out k HOK.out)
      have HOY1 := Lib.hid (HOY.out k hlt HOK.out)
      have HNO1 := Lib.hid (HNO.out k hlt)
      have HLk := Lib.hid (HLN.out k hk)
      have HCC := Lib.hid (HCN.out k (Y k))
      have HCHk := Lib.hid (HCH.out (.slice ab N cb) us (Y k) cc gc k hlt HLk.out (w.heap.size + 1 + 1))
      rw [HLk.out] at HCHk
      generalize atZ xs k = x at *
      generalize chL (rowM M N k) (Y k) n = L at *
      by_cases ho : x = -1
      · have HYK := Lib.hid (HSK1.out ho)
        have HOK1 := Lib.hid (HOS1.out ho)
        subst ho
        go_wp2_with fail
        exact ⟨⟨k + 1, by omega, by go_num, HOK1.out, by rw [HYK.out]; exact HC.out, H1.out, HF.out⟩, by simp [intOf]; omega⟩
      · have e1 : (x == -1) = false := by rw [beq_eq_false_iff_ne]; exact ho
        have e2 : decide (x = -1) = false := by simp [ho]
        have HNOx := Lib.hid (HNO1.out ho)
        clear ho
        go_wp2_with fail
        refine (HCHk.out _ HC.out.rows HC.out.cols).mono ?_
        rintro e w3 ⟨vL, rfl, hL, hb⟩
        have H5 := Lib.hid (H1.out.step hb)
        have HC5 := Lib.hid (HC.out.step hb)
        have HF5 := Lib.hid (HF.out.step hb)
        have hcc := HCC.out
        have HCT := Lib.hid (containsV x hL (by omega))
        clear hb hL x0 x1 x2 x3 x4 x5 H1
        go_wp2_with fail
        refine HCT.out.mono ?_
        rintro e w4 ⟨rfl, hb⟩
        have H6 := Lib.hid (H5.out.step hb)
        have HC6 := Lib.hid (HC5.out.step hb)
        have HF6 := Lib.hid (HF5.out.step hb)
        obtain ⟨t0, t1, t2, -, -⟩ := HC6.out.cols.at_ (j := k) (by rw [HLk.out]; exact hlt)
        have f0 := HF6.out.1 0
        have f1 := HF6.out.1 1
        have f2 := HF6.out.1 2
        clear hb H5 HC5 HF5
        obtain ⟨x0, x1, x2, x3, x4, x5, _⟩ := H6.out.1
        cases hct : L.contains x
        · have HN0 := Lib.hid (HNOx.out hct)
          go_wp2_with fail
          have H7 := Lib.hid (show Held w _ [(w.heap.size + 1, 0, .slice none 0 0), (w.heap.size + 1, 1, .slice none 0 0), (w.heap.size + 1, 2, .int .i64 0), (w1.heap.size, 0, .slice ab N cb), (w1.heap.size, 1, .slice (some ⟨gc, 0, none⟩) N cc), (w1.heap.size, 2, .int .i64 n)] from H6.out.only (fun ⟨a, b, c, d, e, f, _⟩ => ⟨d, e, f, a, b, c, trivial⟩) (fun ⟨a, b, c, d, e, f, _⟩ => ⟨d, e, f, a, b, c, trivial⟩))
          have hnb : ∀ x0 x1 x2, Nblk (w.heap.size + 1) [(w1.heap.size, 0, x0), (w1.heap.size, 1, x1), (w1.heap.size, 2, x2)] := fun _ _ _ => ⟨by omega, by omega, by omega, trivial⟩
          have H8 := Lib.hid (((H7.out.at0 (hnb _ _ _) (Nat.le_succ _) (.slice none 0 0)).at1 (hnb _ _ _) (Nat.le_succ _) (.slice none 0 0)).at2 (hnb _ _ _) (Nat.le_succ _) (.int .i64 0))
          clear H7
          obtain ⟨r0, r1, r2, _⟩ := H8.out.1
          exact bodyPost_ret (v := .tuple #[.agg #[(.slice none 0 0), (.slice none 0 0), (.int .i64 0)], .bool false]) (by simp [results, Tryz.results44, go_sem, r0, r1, r2]) rfl (by unfold WshRet; exact ⟨fun h => (by rw [HN0.out] at h; cases h), fun _ => rfl, H8.out.below⟩)
        · have HOK1 := Lib.hid (HOY1.out hct)
          go_wp2_with fail
          have HC7 := Lib.hid (HC6.out.setC (k := k) HLk.out.symm x)
          rw [← HST1.out] at HC7
          exact ⟨⟨k + 1, by omega, by go_num, HOK1.out, HC7.out, H6.out.setN (by refine ⟨?_, ?_, ?_, ?_, ?_, ?_, trivial⟩ <;> (simp; omega)) (by omega), HF6.out.put _ _⟩, by simp [intOf]; omega⟩
    · have q1 : ¬ (k : Int) < (xs.length : Int) := by rw [HXL.out]; omega
      have q2 : ¬ k < xs.length := by rw [HXL.out]; omega
      have f0 := HF.out.1 0
      have f1 := HF.out.1 1
      have f2 := HF.out.1 2
      obtain rfl : k = N := by omega
      have HY1 := Lib.hid (HYES.out HOK.out)
      go_wp2_with fail
      have H7 := Lib.hid (show Held w _ [(w.heap.size + 1, 0, .slice none 0 0), (w.heap.size + 1, 1, .slice none 0 0), (w.heap.size + 1, 2, .int .i64 0), (w1.heap.size, 0, .slice ab k cb), (w1.heap.size, 1, .slice (some ⟨gc, 0, none⟩) k cc), (w1.heap.size, 2, .int .i64 n)] from H1.out.only (fun ⟨a, b, c, d, e, f, _⟩ => ⟨d, e, f, a, b, c, trivial⟩) (fun ⟨a, b, c, d, e, f, _⟩ => ⟨d, e, f, a, b, c, trivial⟩))
      have hnb : ∀ x0 x1 x2, Nblk (w.heap.size + 1) [(w1.heap.size, 0, x0), (w1.heap.size, 1, x1), (w1.heap.size, 2, x2)] := fun _ _ _ => ⟨by omega, by omega, by omega, trivial⟩
      have H8 := Lib.hid (((H7.out.at0 (hnb _ _ _) (Nat.le_succ _) (.slice ab k cb)).at1 (hnb _ _ _) (Nat.le_succ _) (.slice (some ⟨gc, 0, none⟩) k cc)).at2 (hnb _ _ _) (Nat.le_succ _) (.int .i64 n))
      clear H7
      obtain ⟨r0, r1, r2, _⟩ := H8.out.1
      exact bodyPost_ret (v := .tuple #[.agg #[(.slice ab k cb), (.slice (some ⟨gc, 0, none⟩) k cc), (.int .i64 n)], .bool true]) (by simp [results, Tryz.results44, go_sem, r0, r1, r2]) rfl (by unfold WshRet; exact ⟨fun _ => ⟨_, _, us, rfl, by rw [← HFU.out]; exact (((HC.out.put (Nat.lt_succ_self _) _ _).put (Nat.lt_succ_self _) _ _).put (Nat.lt_succ_self _) _ _).mono (by omega)⟩, fun h => (by rw [HY1.out] at h; cases h), H8.out.below⟩)
end Go.Proofs.YtmcbbjobjogkmabGreat

namespace Go.Proofs.YtmcbbjobjogkmabGreat
open Go.RowKit
set_option linter.unusedVariables false
set_option linter.unusedSimpArgs false

/-- Whether the wishes can be filled, and how first. -/
noncomputable def fwB (ns ls : List Nd) (xs : List Int) (a : Int) : Bool := wgB ns ls xs a && canB (besM (atW ns ls) ls.length) (wF ns ls).length a.toNat xs

noncomputable def fwL (ns ls : List Nd) (xs : List Int) (a : Int) : List Int := if wgB ns ls xs a = true then finR (besM (atW ns ls) ls.length) (wF ns ls).length a.toNat xs else []

theorem fwB_no {ns ls : List Nd} {xs : List Int} {a : Int} (h : wgB ns ls xs a = false) : fwB ns ls xs a = false := by unfold fwB; rw [h]; rfl

theorem fwL_no {ns ls : List Nd} {xs : List Int} {a : Int} (h : wgB ns ls xs a = false) : fwL ns ls xs a = [] := if_neg (by rw [h]; simp)

theorem fwB_yes {ns ls : List Nd} {xs : List Int} {a : Int} (n : Nat) (ha : a = n) (h : wgB ns ls xs a = true) : fwB ns ls xs a = canB (besM (atW ns ls) ls.length) (wF ns ls).length n xs := by unfold fwB; rw [h, ha]; rfl

theorem fwL_yes {ns ls : List Nd} {xs : List Int} {a : Int} (n : Nat) (ha : a = n) (h : wgB ns ls xs a = true) : fwL ns ls xs a = finR (besM (atW ns ls) ls.length) (wF ns ls).length n xs := by unfold fwL; rw [if_pos h, ha]; rfl

theorem wg_no1 {ns ls : List Nd} {xs : List Int} {a : Int} (h : listB ns ls (-1) 5 xs = false) : wgB ns ls xs a = false := by unfold wgB; rw [h]; rfl

theorem wg_no2 {ns ls : List Nd} {xs : List Int} {a : Int} (h : inB a 1 6 = false) : wgB ns ls xs a = false := by
  unfold wgB
  have : ¬ (1 ≤ a ∧ a ≤ 6) := fun e => by rw [(inB_iff a 1 6).2 e] at h; cases h
  cases e : listB ns ls (-1) 5 xs <;> simp <;> omega

theorem wg_yes {ns ls : List Nd} {xs : List Int} {a : Int} (h1 : listB ns ls (-1) 5 xs = true) (h2 : inB a 1 6 = true) : wgB ns ls xs a = true := by
  have := (inB_iff a 1 6).1 h2
  unfold wgB; rw [h1]; simp; omega

theorem wg_parts {ns ls : List Nd} {xs : List Int} {a : Int} (h : wgB ns ls xs a = true) : listB ns ls (-1) 5 xs = true ∧ 1 ≤ a ∧ a ≤ 6 := by
  unfold wgB at h
  simp [Bool.and_eq_true] at h
  exact ⟨h.1, h.2.1, h.2.2⟩

theorem wg_list {ns ls : List Nd} {xs : List Int} {a : Int} (h : wgB ns ls xs a = true) : wholeB ns ls = true ∧ xs.length = (wF ns ls).length ∧ 0 < (wF ns ls).length ∧ ∀ i, i < (wF ns ls).length → -1 ≤ atZ xs i := by
  obtain ⟨h1, h2, h3⟩ := listB_parts (wg_parts h).1
  refine ⟨h1, h2, by rw [wF_whole h1]; exact starts_pos (whole_win h1).1 (whole_win h1).2.1, fun i hi => ((inR_iff xs (-1) 5).1 h3 i (by omega)).1⟩

theorem finR_len {M : Nat → Nat → Bool} {N n : Nat} {xs : List Int} (h : xs.length ≤ 20) : (finR M N n xs).length ≤ 20 := by
  unfold finR
  split
  · rw [finK_len]; exact h
  · simp

theorem fwL_len (ns ls : List Nd) (xs : List Int) (a : Int) : (fwL ns ls xs a).length ≤ 20 := by
  unfold fwL
  split
  · rename_i h
    have := (wg_list h).2.1; have := wF_thirteen ns ls
    exact finR_len (by omega)
  · simp

theorem finish_gen (M : Nat → Nat → Bool) (hsym : ∀ i j, M i j = M j i) (hirr : ∀ i, M i i = false) (N n : Nat) (hN : N ≤ 13) (hn : n ≤ 6) (h0 : 0 < N) (xs : List Int) (hr : xs.length = N) (hp : PrA M N n xs) (vb vc : Value) (Z B : Nat) (us : List Value) (hB : B ≤ Z) (w : World) (hBw : B ≤ w.heap.size) (hc : Cls w Z vb vc us (gath (rowM M N) N) xs) :
    Calls Tryz.prog 37 #[.agg #[vb, vc, .int .i64 n]] w (fun e w' => (∃ v, e = .returned (.tuple #[v, .bool (canB M N n xs)]) ∧ Ints w' Z v (finR M N n xs)) ∧ Below B w w') := by
  have hl : (gath (rowM M N) N).length = N := gath_len _ _
  obtain ⟨ab, cb, rfl, -⟩ := hc.rows.form
  rw [hl] at hc ⊢
  obtain ⟨gc, cc, rfl⟩ := hc.cols.some_ (by rw [hr]; omega)
  rw [hr] at hc ⊢
  have hg := (hc.cols.own gc rfl).1
  exact (implFinish M hsym hirr N n hN hn ab gc cb cc Z us _ hl (fun k hk => gath_at _ hk) xs w hr hp hc).mono fun e w' h => ⟨h.1, h.2.os, h.2.tape, h.2.output, h.2.size, fun k hk => h.2.block k (by omega) (.inl (by omega))⟩

theorem can_gen (M : Nat → Nat → Bool) (hsym : ∀ i j, M i j = M j i) (hirr : ∀ i, M i i = false) (N n : Nat) (hN : N ≤ 13) (hn : n ≤ 6) (h0 : 0 < N) (xs : List Int) (hr : xs.length = N) (hp : PrA M N n xs) (vb vc : Value) (Z B : Nat) (us : List Value) (hB : B ≤ Z) (w : World) (hBw : B ≤ w.heap.size) (hc : Cls w Z vb vc us (gath (rowM M N) N) xs) :
    Calls Tryz.prog 61 #[.agg #[vb, vc, .int .i64 n]] w (fun e w' => e = .returned (.bool (canB M N n xs)) ∧ Below B w w') := by
  have hl : (gath (rowM M N) N).length = N := gath_len _ _
  obtain ⟨ab, cb, rfl, -⟩ := hc.rows.form
  rw [hl] at hc ⊢
  obtain ⟨gc, cc, rfl⟩ := hc.cols.some_ (by rw [hr]; omega)
  rw [hr] at hc ⊢
  have hg := (hc.cols.own gc rfl).1
  exact (implCanA M hsym hirr N n hN hn ab gc cb cc Z us _ hl (fun k hk => gath_at _ hk) N xs w (by rw [← hr]; exact openC_le xs) hr hp hc).mono fun e w' h => ⟨h.1, h.2.2.os, h.2.2.tape, h.2.2.output, h.2.2.size, fun k hk => h.2.2.block k (by omega) (.inl (by omega))⟩

set_option maxRecDepth 100000 in
set_option maxHeartbeats 4000000 in
theorem specFill (ns ls : List Nd) (xs : List Int) (vn vl v : Value) (a : Int) (w : World) (hn : Prs w vn ns) (hl : Prs w vl ls) (hv : Seq w v xs) :
    Calls Tryz.prog 19 #[.agg #[vn, vl], v, .int .i64 a] w (CwRet (fwB ns ls xs a) (fwL ns ls xs a) w) := by
  have HW := Lib.hid (fun w h1 h2 h3 => specWishOk ns ls xs vn vl v w h1 h2 h3)
  unfold BoolIs at HW
  have HM := Lib.hid (fun w h1 h2 (hh : wholeB ns ls = true) => specMat ns ls vn vl w h1 h2 hh)
  unfold MatNew at HM
  have HI := Lib.hid (fun w => specIn a 1 6 w)
  have HA := Lib.hid (fun (n : Nat) (hn : n ≤ 6) (hgl : xs.length = (wF ns ls).length) am cm g vg vx B w h1 h2 h3 => specSrchA (besM (atW ns ls) ls.length) (besM_sym (atW ns ls) ls.length) (wF ns ls).length n (wF_thirteen ns ls) hn am cm g xs vg hgl (wF ns ls).length [] vx B w (by simp) h1 h2 h3)
  unfold SrchRet at HA
  have HSO := Lib.hid (fun n h1 h2 => srch_any (M := besM (atW ns ls) ls.length) (N := (wF ns ls).length) (n := n) (xs := xs) (besM_sym (atW ns ls) ls.length) (besM_irr _ _) h1 h2)
  have HN := Lib.hid hn
  have HL := Lib.hid hl
  have HV := Lib.hid hv
  have H0 := Lib.hid (held_pair w vn vl 33)
  obtain ⟨A, c, rfl⟩ := prs_form2 hn
  obtain ⟨A2, c2, rfl⟩ := prs_form2 hl
  obtain ⟨A3, c3, rfl⟩ := seq_form2 hv
  clear hn hl hv
  have HYB := Lib.hid (fun n h1 h2 => fwB_yes (ns := ns) (ls := ls) (xs := xs) (a := a) n h1 h2)
  have HYL := Lib.hid (fun n h1 h2 => fwL_yes (ns := ns) (ls := ls) (xs := xs) (a := a) n h1 h2)
  have HNO1 := Lib.hid (fun h => wg_no1 (ns := ns) (ls := ls) (xs := xs) (a := a) h)
  have HNO2 := Lib.hid (fun h => wg_no2 (ns := ns) (ls := ls) (xs := xs) (a := a) h)
  have HYES := Lib.hid (fun h1 h2 => wg_yes (ns := ns) (ls := ls) (xs := xs) (a := a) h1 h2)
  have HPT := Lib.hid (fun h => wg_list (ns := ns) (ls := ls) (xs := xs) (a := a) h)
  have HBN := Lib.hid (fun h => fwB_no (ns := ns) (ls := ls) (xs := xs) (a := a) h)
  have HLN := Lib.hid (fun h => fwL_no (ns := ns) (ls := ls) (xs := xs) (a := a) h)
  have HIN := Lib.hid (show inB a 1 6 = true → ∃ n : Nat, a = n ∧ n ≤ 6 from fun h => by have := (inB_iff _ _ _).1 h; exact ⟨a.toNat, by omega, by omega⟩)
  have hN40 := wF_len (ns := ns) (ls := ls)
  generalize fwB ns ls xs a = QB at *
  generalize fwL ns ls xs a = QL at *
  generalize wgB ns ls xs a = WG at *
  generalize listB ns ls (-1) 5 xs = ok at *
  generalize inB a 1 6 = ok2 at *
  generalize besM (atW ns ls) ls.length = M at *
  generalize (wF ns ls).length = N at *
  go_enter Tryz.func19, Tryz.ntmps19
  obtain ⟨x0, x1, _⟩ := H0.out.1
  go_wp2_with fail
  refine (HW.out _ (HN.out.step H0.out.below) (HL.out.step H0.out.below) (HV.out.step H0.out.below)).mono ?_
  rintro e w1 ⟨rfl, hb⟩
  have H1 := Lib.hid (H0.out.step hb)
  clear hb x0 x1
  obtain ⟨x0, x1, _⟩ := H1.out.1
  cases ok
  · have HNO := Lib.hid (HNO1.out (by first | rfl | trivial))
    have HF := Lib.hid (HBN.out HNO.out)
    have HFL := Lib.hid (HLN.out HNO.out)
    go_wp2_with fail
    rw [HF.out, HFL.out]
    exact bodyPost_ret (v := .tuple #[.slice (some ⟨w1.heap.size, 0, none⟩) 0 0, .bool false]) (by simp [results, Tryz.results19, go_sem]) rfl (by unfold CwRet; exact ⟨⟨_, rfl, Ints.made w1 _ _ rfl H1.out.below.size⟩, H1.out.below.alloc H1.out.below.size _⟩)
  · go_wp2_with fail
    refine (HI.out _).mono ?_
    rintro e w2 ⟨rfl, rfl⟩
    cases ok2
    · have HNO := Lib.hid (HNO2.out (by first | rfl | trivial))
      have HF := Lib.hid (HBN.out HNO.out)
      have HFL := Lib.hid (HLN.out HNO.out)
      go_wp2_with fail
      rw [HF.out, HFL.out]
      exact bodyPost_ret (v := .tuple #[.slice (some ⟨w1.heap.size, 0, none⟩) 0 0, .bool false]) (by simp [results, Tryz.results19, go_sem]) rfl (by unfold CwRet; exact ⟨⟨_, rfl, Ints.made w1 _ _ rfl H1.out.below.size⟩, H1.out.below.alloc H1.out.below.size _⟩)
    · obtain ⟨n, rfl, hn6⟩ := HIN.out (by first | rfl | trivial)
      have HWG := Lib.hid (HYES.out (by first | rfl | trivial) (by first | rfl | trivial))
      obtain ⟨hwh, hxl, hpos, hlow⟩ := HPT.out HWG.out
      have HB := Lib.hid (HYB.out n rfl HWG.out)
      have HLL := Lib.hid (HYL.out n rfl HWG.out)
      have HAN := Lib.hid (HA.out n hn6 hxl)
      have HSN := Lib.hid (HSO.out n hxl hlow)
      have HWH := Lib.hid hwh
      clear HYB HYL HA HSO hwh hxl hpos hlow HPT HYES HNO1 HNO2
      generalize srch M xs n N [] = S at *
      obtain ⟨hs1, hs2⟩ := HSN.out
      rw [← hs1] at HB
      rw [← hs2] at HLL
      clear hs1 hs2 HSN
      go_wp2_with fail
      refine (HM.out _ (HN.out.step H1.out.below) (HL.out.step H1.out.below) HWH.out).mono ?_
      rintro e w3 ⟨v, g, rfl, hm, hb⟩
      have H3 := Lib.hid (H1.out.step hb)
      have HM3 := Lib.hid ((hm.mono (b' := 0) (Nat.zero_le _)).step (below_alloc w3 (.cells #[] 3)))
      obtain ⟨am, cm, rfl, -⟩ := hm.form
      have HX4 := Lib.hid (Ints.made w3 w3.heap.size w3.heap.size rfl (Nat.le_refl _))
      have H5 := Lib.hid (H3.out.alloc (.cells #[] 3))
      clear hb hm x0 x1
      go_wp2_with fail
      refine (HAN.out am cm g _ _ _ _ HM3.out (HV.out.step H5.out.below) HX4.out).mono ?_
      rintro e w6 ⟨⟨v6, rfl, hv6⟩, hb⟩
      have H6 := Lib.hid (H5.out.step hb)
      have HV6 := Lib.hid (hv6.mono (b' := w.heap.size) H5.out.below.size)
      clear hb hv6
      go_wp2_with fail
      rw [HB.out, HLL.out]
      exact bodyPost_ret (v := .tuple #[v6, .bool S.isSome]) (by simp [results, Tryz.results19, go_sem]) rfl (by unfold CwRet; exact ⟨⟨v6, rfl, HV6.out⟩, H6.out.below⟩)

set_option maxRecDepth 100000 in
set_option maxHeartbeats 4000000 in
theorem implFill (ns ls : List Nd) (xs : List Int) (vn vl v : Value) (a : Int) (w : World) (hn : Prs w vn ns) (hl : Prs w vl ls) (hv : Seq w v xs) :
    Calls Tryz.prog 21 #[.agg #[vn, vl], v, .int .i64 a] w (CwRet (fwB ns ls xs a) (fwL ns ls xs a) w) := by
  have HWG := Lib.hid (fun w h1 h2 h3 => implWishG ns ls xs vn vl v a w h1 h2 h3)
  unfold GlassL at HWG
  have HWI := Lib.hid (fun (hok : wgB ns ls xs a = true) (n : Nat) (hn : n ≤ 6) v1 v2 v3 v4 vx B w h1 h2 h3 h4 h5 => implWished v1 v2 v3 v4 vx (wF ns ls) (gA ns ls) xs (gN ns ls) (gL ns ls) B B n w h1 h2 h3 h4 h5 (g_len ns ls).1 (g_len ns ls).2 (wF_thirteen ns ls) (wg_list hok).2.1 (wg_list hok).2.2.1 hn)
  unfold WshRet at HWI
  have HFG := Lib.hid (fun (hok : wgB ns ls xs a = true) (n : Nat) (hn : n ≤ 6) hp vb vc Z B us hB w hBw hc => finish_gen (besM (gA ns ls) (gL ns ls).length) (besM_sym _ _) (besM_irr _ _) (wF ns ls).length n (wF_thirteen ns ls) hn (wg_list hok).2.2.1 xs (wg_list hok).2.1 hp vb vc Z B us hB w hBw hc)
  have HN := Lib.hid hn
  have HL := Lib.hid hl
  have HV := Lib.hid hv
  have H0 := Lib.hid (held_pair w vn vl 33)
  obtain ⟨A, c, rfl⟩ := prs_form2 hn
  obtain ⟨A2, c2, rfl⟩ := prs_form2 hl
  obtain ⟨A3, c3, rfl⟩ := seq_form2 hv
  clear hn hl hv
  have HYB := Lib.hid (fun n h1 (h2 : wgB ns ls xs a = true) => (show fwB ns ls xs a = canB (besM (gA ns ls) (gL ns ls).length) (wF ns ls).length n xs from by rw [(gA_whole (wg_list h2).1).1, (gA_whole (wg_list h2).1).2]; exact fwB_yes n h1 h2))
  have HYL := Lib.hid (fun n h1 (h2 : wgB ns ls xs a = true) => (show fwL ns ls xs a = finR (besM (gA ns ls) (gL ns ls).length) (wF ns ls).length n xs from by rw [(gA_whole (wg_list h2).1).1, (gA_whole (wg_list h2).1).2]; exact fwL_yes n h1 h2))
  have HBN := Lib.hid (fun h => fwB_no (ns := ns) (ls := ls) (xs := xs) (a := a) h)
  have HLN := Lib.hid (fun h => fwL_no (ns := ns) (ls := ls) (xs := xs) (a := a) h)
  have HIN := Lib.hid (show wgB ns ls xs a = true → ∃ n : Nat, a = n ∧ n ≤ 6 from fun h => by have := wg_parts h; exact ⟨a.toNat, by omega, by omega⟩)
  have HCP := Lib.hid (fun n h => can_prB (M := besM (gA ns ls) (gL ns ls).length) (N := (wF ns ls).length) (n := n) (xs := xs) (besM_sym _ _) (besM_irr _ _) h)
  have HPR := Lib.hid (fun n => (prB_iff (M := besM (gA ns ls) (gL ns ls).length) (N := (wF ns ls).length) (n := n) (xs := xs)))
  generalize fwB ns ls xs a = QB at *
  generalize fwL ns ls xs a = QL at *
  generalize wgB ns ls xs a = WG at *
  generalize besM (gA ns ls) (gL ns ls).length = M at *
  generalize gN ns ls = ns' at *
  generalize gL ns ls = ls' at *
  generalize gA ns ls = ds at *
  generalize wF ns ls = rs at *
  go_enter Tryz.func21, Tryz.ntmps21
  obtain ⟨x0, x1, _⟩ := H0.out.1
  go_wp2_with fail
  refine (HWG.out _ (HN.out.step H0.out.below) (HL.out.step H0.out.below) (HV.out.step H0.out.below)).mono ?_
  rintro e w1 ⟨v1, v2, v3, v4, rfl, g1, g2, g3, g4, hb⟩
  have H1 := Lib.hid (H0.out.step hb)
  have G0 := Lib.hid (heldG w1 v1 v2 v3 v4 61)
  have B1 := Lib.hid (H1.out.below.trans (G0.out.below.mono H1.out.below.size))
  have G1 := Lib.hid (g1.step G0.out.below)
  have G2 := Lib.hid (g2.step G0.out.below)
  have G3 := Lib.hid (g3.step G0.out.below)
  have G4 := Lib.hid (g4.step G0.out.below)
  obtain ⟨A5, c5, rfl⟩ := prs_form2 g1
  obtain ⟨A6, c6, rfl⟩ := prs_form2 g2
  obtain ⟨A7, c7, rfl⟩ := faces_form g3
  obtain ⟨A8, c8, rfl⟩ := ints_form g4
  clear hb g1 g2 g3 g4 x0 x1
  obtain ⟨x0, x1, x2, x3, _⟩ := G0.out.1
  cases WG
  · have HF := Lib.hid (HBN.out (by first | rfl | trivial))
    have HFL := Lib.hid (HLN.out (by first | rfl | trivial))
    go_wp2_with fail
    rw [HF.out, HFL.out]
    exact bodyPost_ret (v := .tuple #[.slice none 0 0, .bool false]) (by simp [results, Tryz.results21, go_sem]) rfl (by unfold CwRet; exact ⟨⟨_, rfl, Ints.nil _ _⟩, B1.out⟩)
  · obtain ⟨n, rfl, hn6⟩ := HIN.out (by first | rfl | trivial)
    have HB := Lib.hid (HYB.out n rfl (by first | rfl | trivial))
    have HLL := Lib.hid (HYL.out n rfl (by first | rfl | trivial))
    have HWN := Lib.hid (HWI.out (by first | rfl | trivial) n hn6)
    have HFN := Lib.hid (HFG.out (by first | rfl | trivial) n hn6)
    have HCPN := Lib.hid (HCP.out n)
    have HPRN := Lib.hid (HPR.out n)
    clear HYB HYL HWI HFG HCP HPR
    have HFX := Lib.hid (show canB M rs.length n xs = false → finR M rs.length n xs = [] from fun h => finR_no h)
    generalize prB M rs.length n xs = PB at *
    generalize canB M rs.length n xs = CB at *
    generalize finR M rs.length n xs = FR at *
    go_wp2_with fail
    refine (HWN.out _ _ _ _ _ _ _ G1.out G2.out G3.out G4.out (HV.out.step B1.out)).mono ?_
    rintro e w2 ⟨hy, hno, hb⟩
    have B2 := Lib.hid (B1.out.trans (hb.mono B1.out.size))
    have hsz := B1.out.size
    have hsz2 := hb.size
    clear hb
    cases PB
    · obtain rfl := hno rfl
      have hc0 := HCPN.out (by first | rfl | trivial)
      have HF := Lib.hid (HB.out.trans hc0)
      have HFL := Lib.hid (HLL.out.trans (HFX.out hc0))
      clear hy hno hc0
      go_wp2_with fail
      rw [HF.out, HFL.out]
      exact bodyPost_ret (v := .tuple #[.slice none 0 0, .bool false]) (by simp [results, Tryz.results21, go_sem]) rfl (by unfold CwRet; exact ⟨⟨_, rfl, Ints.nil _ _⟩, B2.out.alloc B2.out.size _⟩)
    · obtain ⟨vb, vc, us, rfl, hcl⟩ := hy rfl
      have HP := HPRN.out.1 (by first | rfl | trivial)
      clear hy hno
      obtain ⟨ab, cb, nb, rfl⟩ : ∃ ab cb nb, vb = .slice ab nb cb := by
        obtain ⟨ab, cb, e, -⟩ := hcl.rows.form; exact ⟨ab, cb, _, e⟩
      obtain ⟨ac, cc, nc, rfl⟩ : ∃ ac cc nc, vc = .slice ac nc cc := by
        obtain ⟨ab, cb, e, -⟩ := hcl.cols.form; exact ⟨ab, cb, _, e⟩
      have C0 := Lib.hid (heldC w2 (.slice ab nb cb) (.slice ac nc cc) (.int .i64 n) 65)
      have HC2 := Lib.hid (hcl.step C0.out.below)
      have B3 := Lib.hid (B2.out.trans (C0.out.below.mono B2.out.size))
      have HFN2 := Lib.hid (HFN.out HP _ _ _ w.heap.size us hsz _ B3.out.size HC2.out)
      clear hcl HP
      obtain ⟨y0, y1, y2, _⟩ := C0.out.1
      go_wp2_with fail
      refine HFN2.out.mono ?_
      rintro e w3 ⟨⟨v, rfl, hv⟩, hb⟩
      have B4 := Lib.hid (B3.out.trans hb)
      have HV4 := Lib.hid (hv.mono (b' := w.heap.size) hsz)
      clear hb hv
      go_wp2_with fail
      rw [HB.out, HLL.out]
      exact bodyPost_ret (v := .tuple #[v, .bool CB]) (by simp [results, Tryz.results21, go_sem]) rfl (by unfold CwRet; exact ⟨⟨_, rfl, HV4.out⟩, B4.out⟩)
end Go.Proofs.YtmcbbjobjogkmabGreat
