/-
  A valid history of a whole window, of the program.
-/
import Derived.Test.YtepacoacalhdcaaGreatG6
import Derived.Test.YtepacoacalhdcaaGreatG4
namespace Go.Proofs.YtepacoacalhdcaaGreat
open Go.RowKit
set_option linter.unusedVariables false
set_option linter.unusedSimpArgs false

/-- A glass and a bool are returned. -/
def GlassL (b : Bool) (ns ls : List Nd) (w : World) (e : Ending) (w' : World) : Prop :=
  ∃ v1 v2 v3 v4, e = .returned (.tuple #[.agg #[v1, v2, v3, v4], .bool b]) ∧ Prs w' v1 (gN ns ls) ∧ Prs w' v2 (gL ns ls) ∧ Faces w' w.heap.size v3 (wF ns ls) ∧ Ints w' w.heap.size v4 (gA ns ls) ∧ Below w.heap.size w w'

theorem dec_len (a b : Nat) : decide (a = b) = ((a : Int) == (b : Int)) := by
  rw [Bool.eq_iff_iff]
  simp
  omega

/-- The faces and the faces of the darts lie in blocks from B on. -/
structure FI (B : Nat) (vf : Value) (rs : List (List Int)) (va : Value) (ds : List Int) (W : World) : Prop where
  f : Faces W B vf rs
  a : Ints W B va ds

theorem FI.step {B : Nat} {vf va : Value} {rs : List (List Int)} {ds : List Int} {W W' : World} (h : FI B vf rs va ds W) (hb : Below W.heap.size W W') : FI B vf rs va ds W' := ⟨h.f.step hb, h.a.step hb⟩

theorem stable_fi (B : Nat) (vf : Value) (rs : List (List Int)) (va : Value) (ds : List Int) : Stable fun W => FI B vf rs va ds W := fun _ _ h hb => h.step hb

theorem FI.setRow {B b : Nat} {vf va : Value} {rs : List (List Int)} {ds : List Int} {W : World} (h : FI B vf rs va ds W) (hb : b < B) (cs : Array Value) : FI B vf rs va ds (W.setRow b cs) := by
  have e : ∀ k, B ≤ k → (W.setRow b cs).heap[k]? = W.heap[k]? := fun k hk => setRow_other W b k cs (by omega)
  obtain ⟨⟨us, hf⟩, ha⟩ := h
  exact ⟨⟨us, hf.row.keep fun k hk => e k (hf.row.own k hk).1, hf.len, fun j hj => (hf.each j hj).keep fun k hk => e k ((hf.each j hj).own k hk).1, hf.asc⟩, ha.keep fun k hk => e k (ha.own k hk).1⟩

set_option maxRecDepth 100000 in
set_option maxHeartbeats 4000000 in
theorem implHistG (ns ls : List Nd) (xs : List Int) (vn vl v : Value) (w : World) (hn : Prs w vn ns) (hl : Prs w vl ls) (hv : Seq w v xs) :
    Calls Tryz.prog 83 #[.agg #[vn, vl], v] w (GlassL (listB ns ls 0 3000 xs) ns ls w) := by
  have HN := Lib.hid hn
  have HL := Lib.hid hl
  have HV := Lib.hid hv
  have H0 := Lib.hid (held_glass w vn vl 32 98)
  have HB0 := Lib.hid (show BlkN (w.heap.size + 1) 98 4 ((w.alloc (.cells #[vn, vl] 32)).alloc (.cells #[.slice none 0 0, .slice none 0 0, .slice none 0 0, .slice none 0 0] 98)) from ⟨_, by
    have := heap_alloc_new (w.alloc (.cells #[vn, vl] 32)) (.cells #[.slice none 0 0, .slice none 0 0, .slice none 0 0, .slice none 0 0] 98)
    simpa using this, rfl⟩)
  have HT := Lib.hid (fun W hb => implInR xs v 0 3000 W (hv.step hb))
  unfold BoolIs at HT
  generalize hr : inR xs 0 3000 = r at *
  have HINR := Lib.hid hr; clear hr
  by_cases hh : wholeB ns ls = true
  · have HGY := Lib.hid (fun w h1 h2 => implGlassYes ns ls vn vl w h1 h2 hh)
    unfold GlassYes at HGY
    have HGN := Lib.hid (show gN ns ls = ns from if_pos hh)
    have HGL2 := Lib.hid (show gL ns ls = ls from if_pos hh)
    have HGA := Lib.hid (show gA ns ls = atW ns ls from if_pos hh)
    have HWF := Lib.hid (show wF ns ls = facesL ns ls from if_pos hh)
    unfold GlassL
    have HRES := Lib.hid (show listB ns ls 0 3000 xs = (((xs.length : Int) == ((facesL ns ls).length : Int)) && r) from by unfold listB; rw [hh, dec_len, HINR.out, HWF.out]; rfl)
    generalize listB ns ls 0 3000 xs = res at *
    generalize wF ns ls = wf at *
    generalize gA ns ls = ga at *
    generalize gN ns ls = gn at *
    generalize gL ns ls = gl at *
    generalize facesL ns ls = rs at *
    generalize atW ns ls = ds at *
    clear hh
    obtain ⟨A, c, rfl⟩ := prs_form2 hn
    obtain ⟨A2, c2, rfl⟩ := prs_form2 hl
    obtain ⟨A3, c3, rfl⟩ := seq_form2 hv
    clear hn hl hv
    go_enter Tryz.func83, Tryz.ntmps83
    go_wp2_with fail
    refine (HGY.out _ (HN.out.step H0.out.below) (HL.out.step H0.out.below)).mono ?_
    rintro e w1 ⟨vf, va, rfl, g3, g4, hb⟩
    have H1 := Lib.hid (H0.out.step hb)
    have HB1 := Lib.hid (stable_blkN _ _ _ _ _ HB0.out hb)
    have hs1 := H1.out.2.1.1
    have g3 := g3.mono (b' := w.heap.size + 1 + 1) (by simp)
    have g4 := g4.mono (b' := w.heap.size + 1 + 1) (by simp)
    obtain ⟨A7, c7, rfl⟩ := faces_form g3
    obtain ⟨A8, c8, rfl⟩ := ints_form g4
    have FI1 := Lib.hid (FI.mk g3 g4)
    have H2 := Lib.hid (H1.out.new2 w1.heap.size rfl [.slice A ns.length c, .slice A2 ls.length c2, .slice A7 rs.length c7, .slice A8 ds.length c8] 98)
    have H8 := Lib.hid (show Held w _ [(w1.heap.size, 0, .slice A ns.length c), (w1.heap.size, 1, .slice A2 ls.length c2), (w1.heap.size, 2, .slice A7 rs.length c7), (w1.heap.size, 3, .slice A8 ds.length c8)] from H2.out.only (fun ⟨a, b, c, d, _⟩ => ⟨a, b, c, d, trivial⟩) (fun ⟨a, b, c, d, _⟩ => ⟨a, b, c, d, trivial⟩))
    have bq := below_alloc w1 (.cells #[.slice A ns.length c, .slice A2 ls.length c2, .slice A7 rs.length c7, .slice A8 ds.length c8] 98)
    have HK9 := Lib.hid (stable_blkN _ _ _ _ _ HB1.out bq)
    have FI9 := Lib.hid (FI1.out.step bq)
    clear hb g3 g4 bq H1 H2 HB0 HB1 FI1 H0 HGY
    obtain ⟨x0, x1, x2, x3, _⟩ := H8.out.1
    go_wp2_with fail
    generalize w1.alloc (.cells #[.slice A ns.length c, .slice A2 ls.length c2, .slice A7 rs.length c7, .slice A8 ds.length c8] 98) = W8 at *
    obtain ⟨q, hq⟩ : ∃ q, ((xs.length : Int) == (rs.length : Int)) = q := ⟨_, rfl⟩
    rw [hq] at HRES
    cases q
    · replace HRES := Lib.hid (show res = false from by rw [HRES.out]; rfl)
      refine regionW (fun W => ((Held _ W [(w1.heap.size, 0, .slice A ns.length c), (w1.heap.size, 1, .slice A2 ls.length c2), (w1.heap.size, 2, .slice A7 rs.length c7), (w1.heap.size, 3, .slice A8 ds.length c8)]) ∧ BlkN (w.heap.size + 1) 98 4 W) ∧ FI (w.heap.size + 1 + 1) (.slice A7 rs.length c7) rs (.slice A8 ds.length c8) ds W) (by kernel_rfl) ⟨⟨H8.out.drew, HK9.out⟩, (FI9.out).step ((Below.refl _ _).drew)⟩ ?_
      refine takeW (i := 0) (v := ?_) (Stable.and (Stable.and (Stable.held _ _) (stable_blkN (w.heap.size + 1) 98 4)) (stable_fi (w.heap.size + 1 + 1) (.slice A7 rs.length c7) rs (.slice A8 ds.length c8) ds)) rfl (by kernel_rfl) (by kernel_rfl) (by kernel_rfl) (fun _ _ _ h => h) ?_ ?_
      rotate_left
      · first | (refine Or.inl ⟨by rfl, fun W hS => detR_value (w' := W) ?_ (Below.refl _ _)⟩; obtain ⟨⟨hH, q1⟩, q2⟩ := hS; obtain ⟨x0, x1, x2, x3, _⟩ := hH.1; go_simp; first | done | with_reducible rfl) | fail
      simp only [Act.put, List.setIfInBounds_toArray, List.set_cons_zero, List.set_cons_succ]
      refine takeW (i := 1) (v := ?_) (Stable.and (Stable.and (Stable.held _ _) (stable_blkN (w.heap.size + 1) 98 4)) (stable_fi (w.heap.size + 1 + 1) (.slice A7 rs.length c7) rs (.slice A8 ds.length c8) ds)) rfl (by kernel_rfl) (by kernel_rfl) (by kernel_rfl) (fun _ _ _ h => h) ?_ ?_
      rotate_left
      · first | (refine Or.inl ⟨by rfl, fun W hS => detR_value (w' := W) ?_ (Below.refl _ _)⟩; obtain ⟨⟨hH, q1⟩, q2⟩ := hS; obtain ⟨x0, x1, x2, x3, _⟩ := hH.1; go_simp; first | done | with_reducible rfl) | fail
      simp only [Act.put, List.setIfInBounds_toArray, List.set_cons_zero, List.set_cons_succ]
      refine takeW (i := 2) (v := ?_) (Stable.and (Stable.and (Stable.held _ _) (stable_blkN (w.heap.size + 1) 98 4)) (stable_fi (w.heap.size + 1 + 1) (.slice A7 rs.length c7) rs (.slice A8 ds.length c8) ds)) rfl (by kernel_rfl) (by kernel_rfl) (by kernel_rfl) (fun _ _ _ h => h) ?_ ?_
      rotate_left
      · first | (refine Or.inl ⟨by rfl, fun W hS => detR_value (w' := W) ?_ (Below.refl _ _)⟩; obtain ⟨⟨hH, q1⟩, q2⟩ := hS; obtain ⟨x0, x1, x2, x3, _⟩ := hH.1; go_simp; first | done | with_reducible rfl) | fail
      simp only [Act.put, List.setIfInBounds_toArray, List.set_cons_zero, List.set_cons_succ]
      refine takeW (i := 3) (v := ?_) (Stable.and (Stable.and (Stable.held _ _) (stable_blkN (w.heap.size + 1) 98 4)) (stable_fi (w.heap.size + 1 + 1) (.slice A7 rs.length c7) rs (.slice A8 ds.length c8) ds)) rfl (by kernel_rfl) (by kernel_rfl) (by kernel_rfl) (fun _ _ _ h => h) ?_ ?_
      rotate_left
      · first | (refine Or.inr ⟨by rfl, ?_⟩; with_reducible rfl) | (refine Or.inl ⟨by rfl, fun W hS => detR_value (w' := W) ?_ (Below.refl _ _)⟩; obtain ⟨⟨hH, q1⟩, q2⟩ := hS; obtain ⟨x0, x1, x2, x3, _⟩ := hH.1; go_simp; first | done | with_reducible rfl) | fail
      simp only [Act.put, List.setIfInBounds_toArray, List.set_cons_zero, List.set_cons_succ]
      refine takeW (i := 4) (v := ?_) (Stable.and (Stable.and (Stable.held _ _) (stable_blkN (w.heap.size + 1) 98 4)) (stable_fi (w.heap.size + 1 + 1) (.slice A7 rs.length c7) rs (.slice A8 ds.length c8) ds)) rfl (by kernel_rfl) (by kernel_rfl) (by kernel_rfl) (fun _ _ _ h => h) ?_ ?_
      rotate_left
      · first | (refine Or.inr ⟨by rfl, ?_⟩; with_reducible rfl) | (refine Or.inl ⟨by rfl, fun W hS => detR_value (w' := W) ?_ (Below.refl _ _)⟩; obtain ⟨⟨hH, q1⟩, q2⟩ := hS; obtain ⟨x0, x1, x2, x3, _⟩ := hH.1; go_simp; first | done | with_reducible rfl) | fail
      simp only [Act.put, List.setIfInBounds_toArray, List.set_cons_zero, List.set_cons_succ]
      refine takeW (i := 5) (v := ?_) (Stable.and (Stable.and (Stable.held _ _) (stable_blkN (w.heap.size + 1) 98 4)) (stable_fi (w.heap.size + 1 + 1) (.slice A7 rs.length c7) rs (.slice A8 ds.length c8) ds)) rfl (by kernel_rfl) (by kernel_rfl) (by kernel_rfl) (fun _ _ _ h => h) ?_ ?_
      rotate_left
      · first | (refine Or.inr ⟨by rfl, ?_⟩; with_reducible rfl) | (refine Or.inl ⟨by rfl, fun W hS => detR_value (w' := W) ?_ (Below.refl _ _)⟩; obtain ⟨⟨hH, q1⟩, q2⟩ := hS; obtain ⟨x0, x1, x2, x3, _⟩ := hH.1; go_simp; first | done | with_reducible rfl) | fail
      simp only [Act.put, List.setIfInBounds_toArray, List.set_cons_zero, List.set_cons_succ]
      refine takeW (i := 6) (v := ?_) (Stable.and (Stable.and (Stable.held _ _) (stable_blkN (w.heap.size + 1) 98 4)) (stable_fi (w.heap.size + 1 + 1) (.slice A7 rs.length c7) rs (.slice A8 ds.length c8) ds)) rfl (by kernel_rfl) (by kernel_rfl) (by kernel_rfl) (fun _ _ _ h => h) ?_ ?_
      rotate_left
      · first | (refine Or.inr ⟨by rfl, ?_⟩; with_reducible rfl) | (refine Or.inl ⟨by rfl, fun W hS => detR_value (w' := W) ?_ (Below.refl _ _)⟩; obtain ⟨⟨hH, q1⟩, q2⟩ := hS; obtain ⟨x0, x1, x2, x3, _⟩ := hH.1; go_simp; first | done | with_reducible rfl) | fail
      simp only [Act.put, List.setIfInBounds_toArray, List.set_cons_zero, List.set_cons_succ]
      refine takeW (i := 7) (v := ?_) (Stable.and (Stable.and (Stable.held _ _) (stable_blkN (w.heap.size + 1) 98 4)) (stable_fi (w.heap.size + 1 + 1) (.slice A7 rs.length c7) rs (.slice A8 ds.length c8) ds)) rfl (by kernel_rfl) (by kernel_rfl) (by kernel_rfl) (fun _ _ _ h => h) ?_ ?_
      rotate_left
      · first | (refine Or.inr ⟨by rfl, ?_⟩; with_reducible rfl) | (refine Or.inl ⟨by rfl, fun W hS => detR_value (w' := W) ?_ (Below.refl _ _)⟩; obtain ⟨⟨hH, q1⟩, q2⟩ := hS; obtain ⟨x0, x1, x2, x3, _⟩ := hH.1; go_simp; first | done | with_reducible rfl) | fail
      simp only [Act.put, List.setIfInBounds_toArray, List.set_cons_zero, List.set_cons_succ]
      refine takeW (i := 8) (v := ?_) (Stable.and (Stable.and (Stable.held _ _) (stable_blkN (w.heap.size + 1) 98 4)) (stable_fi (w.heap.size + 1 + 1) (.slice A7 rs.length c7) rs (.slice A8 ds.length c8) ds)) rfl (by kernel_rfl) (by kernel_rfl) (by kernel_rfl) (fun _ _ _ h => h) ?_ ?_
      rotate_left
      · first | (refine Or.inr ⟨by rfl, ?_⟩; with_reducible rfl) | (refine Or.inl ⟨by rfl, fun W hS => detR_value (w' := W) ?_ (Below.refl _ _)⟩; obtain ⟨⟨hH, q1⟩, q2⟩ := hS; obtain ⟨x0, x1, x2, x3, _⟩ := hH.1; go_simp; first | done | with_reducible rfl) | fail
      simp only [Act.put, List.setIfInBounds_toArray, List.set_cons_zero, List.set_cons_succ]
      refine takeW (i := 9) (v := ?_) (Stable.and (Stable.and (Stable.held _ _) (stable_blkN (w.heap.size + 1) 98 4)) (stable_fi (w.heap.size + 1 + 1) (.slice A7 rs.length c7) rs (.slice A8 ds.length c8) ds)) rfl (by kernel_rfl) (by kernel_rfl) (by kernel_rfl) (fun _ _ _ h => h) ?_ ?_
      rotate_left
      · first | (refine Or.inl ⟨by rfl, fun W hS => detR_value (w' := W) ?_ (Below.refl _ _)⟩; obtain ⟨⟨hH, q1⟩, q2⟩ := hS; obtain ⟨x0, x1, x2, x3, _⟩ := hH.1; go_simp; first | done | with_reducible rfl) | fail
      simp only [Act.put, List.setIfInBounds_toArray, List.set_cons_zero, List.set_cons_succ]
      refine takeW (i := 10) (v := ?_) (Stable.and (Stable.and (Stable.held _ _) (stable_blkN (w.heap.size + 1) 98 4)) (stable_fi (w.heap.size + 1 + 1) (.slice A7 rs.length c7) rs (.slice A8 ds.length c8) ds)) rfl (by kernel_rfl) (by kernel_rfl) (by kernel_rfl) (fun _ _ _ h => h) ?_ ?_
      rotate_left
      · first | (refine Or.inl ⟨by rfl, fun W hS => detR_value (w' := W) ?_ (Below.refl _ _)⟩; obtain ⟨⟨hH, q1⟩, q2⟩ := hS; obtain ⟨x0, x1, x2, x3, _⟩ := hH.1; go_simp; first | done | with_reducible rfl) | fail
      simp only [Act.put, List.setIfInBounds_toArray, List.set_cons_zero, List.set_cons_succ]
      refine takeW (i := 11) (v := ?_) (Stable.and (Stable.and (Stable.held _ _) (stable_blkN (w.heap.size + 1) 98 4)) (stable_fi (w.heap.size + 1 + 1) (.slice A7 rs.length c7) rs (.slice A8 ds.length c8) ds)) rfl (by kernel_rfl) (by kernel_rfl) (by kernel_rfl) (fun _ _ _ h => h) ?_ ?_
      rotate_left
      · first | (refine Or.inr ⟨by rfl, ?_⟩; with_reducible rfl) | (refine Or.inl ⟨by rfl, fun W hS => detR_value (w' := W) ?_ (Below.refl _ _)⟩; obtain ⟨⟨hH, q1⟩, q2⟩ := hS; obtain ⟨x0, x1, x2, x3, _⟩ := hH.1; go_simp; first | done | with_reducible rfl) | fail
      simp only [Act.put, List.setIfInBounds_toArray, List.set_cons_zero, List.set_cons_succ]
      refine takeW (i := 12) (v := ?_) (Stable.and (Stable.and (Stable.held _ _) (stable_blkN (w.heap.size + 1) 98 4)) (stable_fi (w.heap.size + 1 + 1) (.slice A7 rs.length c7) rs (.slice A8 ds.length c8) ds)) rfl (by kernel_rfl) (by kernel_rfl) (by kernel_rfl) (fun _ _ _ h => h) ?_ ?_
      rotate_left
      · first | (refine Or.inr ⟨by rfl, ?_⟩; with_reducible rfl) | (refine Or.inl ⟨by rfl, fun W hS => ?_⟩; obtain ⟨⟨hH, q1⟩, q2⟩ := hS; refine detR_call (w' := W) (f := ?_) (args := ?_) ?_ ?_; rotate_left 2; (go_simp; (refine ⟨?_, ?_⟩ <;> with_reducible rfl)); (first | (with_reducible refine (HT.out _ hH.below).mono ?_) | fail); (first | (rintro e wn ⟨rfl, hb⟩; refine ⟨?_, hb⟩; with_reducible rfl) | (rintro e wn ⟨rfl, rfl⟩; refine ⟨?_, Below.refl _ _⟩; with_reducible rfl) | fail)) | fail
      simp only [Act.put, List.setIfInBounds_toArray, List.set_cons_zero, List.set_cons_succ]
      refine takeW (i := 13) (v := ?_) (Stable.and (Stable.and (Stable.held _ _) (stable_blkN (w.heap.size + 1) 98 4)) (stable_fi (w.heap.size + 1 + 1) (.slice A7 rs.length c7) rs (.slice A8 ds.length c8) ds)) rfl (by kernel_rfl) (by kernel_rfl) (by kernel_rfl) (fun _ _ _ h => h) ?_ ?_
      rotate_left
      · first | (refine Or.inl ⟨by rfl, fun W hS => detR_value (w' := W) ?_ (Below.refl _ _)⟩; obtain ⟨⟨hH, q1⟩, q2⟩ := hS; obtain ⟨x0, x1, x2, x3, _⟩ := hH.1; go_simp; first | done | with_reducible rfl) | fail
      simp only [Act.put, List.setIfInBounds_toArray, List.set_cons_zero, List.set_cons_succ]
      refine storeK (i := 14) (b := w.heap.size + 1) #[.slice A ns.length c, .slice A2 ls.length c2, .slice A7 rs.length c7, .slice A8 ds.length c8] (Stable.and (Stable.and (Stable.held _ _) (stable_blkN (w.heap.size + 1) 98 4)) (stable_fi (w.heap.size + 1 + 1) (.slice A7 rs.length c7) rs (.slice A8 ds.length c8) ds)) (fun W hS => by obtain ⟨⟨hH, q1⟩, q2⟩ := hS; exact q1) (fun W hS => by obtain ⟨⟨hH, q1⟩, q2⟩ := hS; exact ⟨⟨hH.setRowAt (by simp; omega) (Nat.le_succ _) _, q1.setRow rfl⟩, q2.setRow (Nat.lt_succ_self _) _⟩) rfl (by kernel_rfl) (by rfl) rfl (by rfl) (by rfl) rfl (by kernel_rfl) (by simp [Value.oneCell']) ?_
      simp only [Act.put, List.setIfInBounds_toArray, List.set_cons_zero, List.set_cons_succ]
      refine takeW (i := 15) (v := ?_) (Stable.and (Stable.and (Stable.and (Stable.held _ _) (stable_blkN (w.heap.size + 1) 98 4)) (stable_fi (w.heap.size + 1 + 1) (.slice A7 rs.length c7) rs (.slice A8 ds.length c8) ds)) (stable_blkIs _ _ _)) rfl (by kernel_rfl) (by kernel_rfl) (by kernel_rfl) (fun _ _ _ h => h) ?_ ?_
      rotate_left
      · first | (refine Or.inl ⟨by rfl, fun W hS => detR_value (w' := W) ?_ (Below.refl _ _)⟩; obtain ⟨⟨⟨hH, q1⟩, q2⟩, hs⟩ := hS; obtain ⟨x0, x1, x2, x3, _⟩ := hH.1; go_simp; first | done | with_reducible rfl) | fail
      simp only [Act.put, List.setIfInBounds_toArray, List.set_cons_zero, List.set_cons_succ]
      refine doneW (by kernel_rfl) fun wH7 HG => ?_
      obtain ⟨⟨⟨hH, q1⟩, q2⟩, hs⟩ := HG
      have H7 := Lib.hid hH; clear hH
      have MH7_q1 := Lib.hid q1; clear q1
      have MH7_q2 := Lib.hid q2; clear q2
      have MH7_s := Lib.hid hs; clear hs
      try clear x0 x1 x2 x3
      have r0 := (cell_of_cells (k := 0) MH7_s.out).trans (rfl : _ = some (Value.slice A ns.length c))
      have r1 := (cell_of_cells (k := 1) MH7_s.out).trans (rfl : _ = some (Value.slice A2 ls.length c2))
      have r2 := (cell_of_cells (k := 2) MH7_s.out).trans (rfl : _ = some (Value.slice A7 rs.length c7))
      have r3 := (cell_of_cells (k := 3) MH7_s.out).trans (rfl : _ = some (Value.slice A8 ds.length c8))
      go_wp2_with fail
      refine bodyPost_ret (v := .tuple #[.agg #[.slice A ns.length c, .slice A2 ls.length c2, .slice A7 rs.length c7, .slice A8 ds.length c8], .bool false]) (by simp [results, Tryz.results83, go_sem, r0, r1, r2, r3]) rfl ⟨_, _, _, _, by rw [HRES.out], ?_, ?_, ?_, ?_, H7.out.below⟩
      · rw [HGN.out]; exact HN.out.step H7.out.below
      · rw [HGL2.out]; exact HL.out.step H7.out.below
      · rw [HWF.out]; exact MH7_q2.out.f.mono (by omega)
      · rw [HGA.out]; exact MH7_q2.out.a.mono (by omega)
    · cases r
      · replace HRES := Lib.hid (show res = false from by rw [HRES.out]; rfl)
        refine regionW (fun W => ((Held _ W [(w1.heap.size, 0, .slice A ns.length c), (w1.heap.size, 1, .slice A2 ls.length c2), (w1.heap.size, 2, .slice A7 rs.length c7), (w1.heap.size, 3, .slice A8 ds.length c8)]) ∧ BlkN (w.heap.size + 1) 98 4 W) ∧ FI (w.heap.size + 1 + 1) (.slice A7 rs.length c7) rs (.slice A8 ds.length c8) ds W) (by kernel_rfl) ⟨⟨H8.out.drew, HK9.out⟩, (FI9.out).step ((Below.refl _ _).drew)⟩ ?_
        refine takeW (i := 0) (v := ?_) (Stable.and (Stable.and (Stable.held _ _) (stable_blkN (w.heap.size + 1) 98 4)) (stable_fi (w.heap.size + 1 + 1) (.slice A7 rs.length c7) rs (.slice A8 ds.length c8) ds)) rfl (by kernel_rfl) (by kernel_rfl) (by kernel_rfl) (fun _ _ _ h => h) ?_ ?_
        rotate_left
        · first | (refine Or.inl ⟨by rfl, fun W hS => detR_value (w' := W) ?_ (Below.refl _ _)⟩; obtain ⟨⟨hH, q1⟩, q2⟩ := hS; obtain ⟨x0, x1, x2, x3, _⟩ := hH.1; go_simp; first | done | with_reducible rfl) | fail
        simp only [Act.put, List.setIfInBounds_toArray, List.set_cons_zero, List.set_cons_succ]
        refine takeW (i := 1) (v := ?_) (Stable.and (Stable.and (Stable.held _ _) (stable_blkN (w.heap.size + 1) 98 4)) (stable_fi (w.heap.size + 1 + 1) (.slice A7 rs.length c7) rs (.slice A8 ds.length c8) ds)) rfl (by kernel_rfl) (by kernel_rfl) (by kernel_rfl) (fun _ _ _ h => h) ?_ ?_
        rotate_left
        · first | (refine Or.inl ⟨by rfl, fun W hS => detR_value (w' := W) ?_ (Below.refl _ _)⟩; obtain ⟨⟨hH, q1⟩, q2⟩ := hS; obtain ⟨x0, x1, x2, x3, _⟩ := hH.1; go_simp; first | done | with_reducible rfl) | fail
        simp only [Act.put, List.setIfInBounds_toArray, List.set_cons_zero, List.set_cons_succ]
        refine takeW (i := 2) (v := ?_) (Stable.and (Stable.and (Stable.held _ _) (stable_blkN (w.heap.size + 1) 98 4)) (stable_fi (w.heap.size + 1 + 1) (.slice A7 rs.length c7) rs (.slice A8 ds.length c8) ds)) rfl (by kernel_rfl) (by kernel_rfl) (by kernel_rfl) (fun _ _ _ h => h) ?_ ?_
        rotate_left
        · first | (refine Or.inl ⟨by rfl, fun W hS => detR_value (w' := W) ?_ (Below.refl _ _)⟩; obtain ⟨⟨hH, q1⟩, q2⟩ := hS; obtain ⟨x0, x1, x2, x3, _⟩ := hH.1; go_simp; first | done | with_reducible rfl) | fail
        simp only [Act.put, List.setIfInBounds_toArray, List.set_cons_zero, List.set_cons_succ]
        refine takeW (i := 3) (v := ?_) (Stable.and (Stable.and (Stable.held _ _) (stable_blkN (w.heap.size + 1) 98 4)) (stable_fi (w.heap.size + 1 + 1) (.slice A7 rs.length c7) rs (.slice A8 ds.length c8) ds)) rfl (by kernel_rfl) (by kernel_rfl) (by kernel_rfl) (fun _ _ _ h => h) ?_ ?_
        rotate_left
        · first | (refine Or.inr ⟨by rfl, ?_⟩; with_reducible rfl) | (refine Or.inl ⟨by rfl, fun W hS => detR_value (w' := W) ?_ (Below.refl _ _)⟩; obtain ⟨⟨hH, q1⟩, q2⟩ := hS; obtain ⟨x0, x1, x2, x3, _⟩ := hH.1; go_simp; first | done | with_reducible rfl) | fail
        simp only [Act.put, List.setIfInBounds_toArray, List.set_cons_zero, List.set_cons_succ]
        refine takeW (i := 4) (v := ?_) (Stable.and (Stable.and (Stable.held _ _) (stable_blkN (w.heap.size + 1) 98 4)) (stable_fi (w.heap.size + 1 + 1) (.slice A7 rs.length c7) rs (.slice A8 ds.length c8) ds)) rfl (by kernel_rfl) (by kernel_rfl) (by kernel_rfl) (fun _ _ _ h => h) ?_ ?_
        rotate_left
        · first | (refine Or.inr ⟨by rfl, ?_⟩; with_reducible rfl) | (refine Or.inl ⟨by rfl, fun W hS => detR_value (w' := W) ?_ (Below.refl _ _)⟩; obtain ⟨⟨hH, q1⟩, q2⟩ := hS; obtain ⟨x0, x1, x2, x3, _⟩ := hH.1; go_simp; first | done | with_reducible rfl) | fail
        simp only [Act.put, List.setIfInBounds_toArray, List.set_cons_zero, List.set_cons_succ]
        refine takeW (i := 5) (v := ?_) (Stable.and (Stable.and (Stable.held _ _) (stable_blkN (w.heap.size + 1) 98 4)) (stable_fi (w.heap.size + 1 + 1) (.slice A7 rs.length c7) rs (.slice A8 ds.length c8) ds)) rfl (by kernel_rfl) (by kernel_rfl) (by kernel_rfl) (fun _ _ _ h => h) ?_ ?_
        rotate_left
        · first | (refine Or.inr ⟨by rfl, ?_⟩; with_reducible rfl) | (refine Or.inl ⟨by rfl, fun W hS => detR_value (w' := W) ?_ (Below.refl _ _)⟩; obtain ⟨⟨hH, q1⟩, q2⟩ := hS; obtain ⟨x0, x1, x2, x3, _⟩ := hH.1; go_simp; first | done | with_reducible rfl) | fail
        simp only [Act.put, List.setIfInBounds_toArray, List.set_cons_zero, List.set_cons_succ]
        refine takeW (i := 6) (v := ?_) (Stable.and (Stable.and (Stable.held _ _) (stable_blkN (w.heap.size + 1) 98 4)) (stable_fi (w.heap.size + 1 + 1) (.slice A7 rs.length c7) rs (.slice A8 ds.length c8) ds)) rfl (by kernel_rfl) (by kernel_rfl) (by kernel_rfl) (fun _ _ _ h => h) ?_ ?_
        rotate_left
        · first | (refine Or.inr ⟨by rfl, ?_⟩; with_reducible rfl) | (refine Or.inl ⟨by rfl, fun W hS => detR_value (w' := W) ?_ (Below.refl _ _)⟩; obtain ⟨⟨hH, q1⟩, q2⟩ := hS; obtain ⟨x0, x1, x2, x3, _⟩ := hH.1; go_simp; first | done | with_reducible rfl) | fail
        simp only [Act.put, List.setIfInBounds_toArray, List.set_cons_zero, List.set_cons_succ]
        refine takeW (i := 7) (v := ?_) (Stable.and (Stable.and (Stable.held _ _) (stable_blkN (w.heap.size + 1) 98 4)) (stable_fi (w.heap.size + 1 + 1) (.slice A7 rs.length c7) rs (.slice A8 ds.length c8) ds)) rfl (by kernel_rfl) (by kernel_rfl) (by kernel_rfl) (fun _ _ _ h => h) ?_ ?_
        rotate_left
        · first | (refine Or.inr ⟨by rfl, ?_⟩; with_reducible rfl) | (refine Or.inl ⟨by rfl, fun W hS => detR_value (w' := W) ?_ (Below.refl _ _)⟩; obtain ⟨⟨hH, q1⟩, q2⟩ := hS; obtain ⟨x0, x1, x2, x3, _⟩ := hH.1; go_simp; first | done | with_reducible rfl) | fail
        simp only [Act.put, List.setIfInBounds_toArray, List.set_cons_zero, List.set_cons_succ]
        refine takeW (i := 8) (v := ?_) (Stable.and (Stable.and (Stable.held _ _) (stable_blkN (w.heap.size + 1) 98 4)) (stable_fi (w.heap.size + 1 + 1) (.slice A7 rs.length c7) rs (.slice A8 ds.length c8) ds)) rfl (by kernel_rfl) (by kernel_rfl) (by kernel_rfl) (fun _ _ _ h => h) ?_ ?_
        rotate_left
        · first | (refine Or.inr ⟨by rfl, ?_⟩; with_reducible rfl) | (refine Or.inl ⟨by rfl, fun W hS => detR_value (w' := W) ?_ (Below.refl _ _)⟩; obtain ⟨⟨hH, q1⟩, q2⟩ := hS; obtain ⟨x0, x1, x2, x3, _⟩ := hH.1; go_simp; first | done | with_reducible rfl) | fail
        simp only [Act.put, List.setIfInBounds_toArray, List.set_cons_zero, List.set_cons_succ]
        refine takeW (i := 9) (v := ?_) (Stable.and (Stable.and (Stable.held _ _) (stable_blkN (w.heap.size + 1) 98 4)) (stable_fi (w.heap.size + 1 + 1) (.slice A7 rs.length c7) rs (.slice A8 ds.length c8) ds)) rfl (by kernel_rfl) (by kernel_rfl) (by kernel_rfl) (fun _ _ _ h => h) ?_ ?_
        rotate_left
        · first | (refine Or.inl ⟨by rfl, fun W hS => detR_value (w' := W) ?_ (Below.refl _ _)⟩; obtain ⟨⟨hH, q1⟩, q2⟩ := hS; obtain ⟨x0, x1, x2, x3, _⟩ := hH.1; go_simp; first | done | with_reducible rfl) | fail
        simp only [Act.put, List.setIfInBounds_toArray, List.set_cons_zero, List.set_cons_succ]
        refine takeW (i := 10) (v := ?_) (Stable.and (Stable.and (Stable.held _ _) (stable_blkN (w.heap.size + 1) 98 4)) (stable_fi (w.heap.size + 1 + 1) (.slice A7 rs.length c7) rs (.slice A8 ds.length c8) ds)) rfl (by kernel_rfl) (by kernel_rfl) (by kernel_rfl) (fun _ _ _ h => h) ?_ ?_
        rotate_left
        · first | (refine Or.inl ⟨by rfl, fun W hS => detR_value (w' := W) ?_ (Below.refl _ _)⟩; obtain ⟨⟨hH, q1⟩, q2⟩ := hS; obtain ⟨x0, x1, x2, x3, _⟩ := hH.1; go_simp; first | done | with_reducible rfl) | fail
        simp only [Act.put, List.setIfInBounds_toArray, List.set_cons_zero, List.set_cons_succ]
        refine takeW (i := 11) (v := ?_) (Stable.and (Stable.and (Stable.held _ _) (stable_blkN (w.heap.size + 1) 98 4)) (stable_fi (w.heap.size + 1 + 1) (.slice A7 rs.length c7) rs (.slice A8 ds.length c8) ds)) rfl (by kernel_rfl) (by kernel_rfl) (by kernel_rfl) (fun _ _ _ h => h) ?_ ?_
        rotate_left
        · first | (refine Or.inr ⟨by rfl, ?_⟩; with_reducible rfl) | (refine Or.inl ⟨by rfl, fun W hS => detR_value (w' := W) ?_ (Below.refl _ _)⟩; obtain ⟨⟨hH, q1⟩, q2⟩ := hS; obtain ⟨x0, x1, x2, x3, _⟩ := hH.1; go_simp; first | done | with_reducible rfl) | fail
        simp only [Act.put, List.setIfInBounds_toArray, List.set_cons_zero, List.set_cons_succ]
        refine takeW (i := 12) (v := ?_) (Stable.and (Stable.and (Stable.held _ _) (stable_blkN (w.heap.size + 1) 98 4)) (stable_fi (w.heap.size + 1 + 1) (.slice A7 rs.length c7) rs (.slice A8 ds.length c8) ds)) rfl (by kernel_rfl) (by kernel_rfl) (by kernel_rfl) (fun _ _ _ h => h) ?_ ?_
        rotate_left
        · first | (refine Or.inr ⟨by rfl, ?_⟩; with_reducible rfl) | (refine Or.inl ⟨by rfl, fun W hS => ?_⟩; obtain ⟨⟨hH, q1⟩, q2⟩ := hS; refine detR_call (w' := W) (f := ?_) (args := ?_) ?_ ?_; rotate_left 2; (go_simp; (refine ⟨?_, ?_⟩ <;> with_reducible rfl)); (first | (with_reducible refine (HT.out _ hH.below).mono ?_) | fail); (first | (rintro e wn ⟨rfl, hb⟩; refine ⟨?_, hb⟩; with_reducible rfl) | (rintro e wn ⟨rfl, rfl⟩; refine ⟨?_, Below.refl _ _⟩; with_reducible rfl) | fail)) | fail
        simp only [Act.put, List.setIfInBounds_toArray, List.set_cons_zero, List.set_cons_succ]
        refine takeW (i := 13) (v := ?_) (Stable.and (Stable.and (Stable.held _ _) (stable_blkN (w.heap.size + 1) 98 4)) (stable_fi (w.heap.size + 1 + 1) (.slice A7 rs.length c7) rs (.slice A8 ds.length c8) ds)) rfl (by kernel_rfl) (by kernel_rfl) (by kernel_rfl) (fun _ _ _ h => h) ?_ ?_
        rotate_left
        · first | (refine Or.inl ⟨by rfl, fun W hS => detR_value (w' := W) ?_ (Below.refl _ _)⟩; obtain ⟨⟨hH, q1⟩, q2⟩ := hS; obtain ⟨x0, x1, x2, x3, _⟩ := hH.1; go_simp; first | done | with_reducible rfl) | fail
        simp only [Act.put, List.setIfInBounds_toArray, List.set_cons_zero, List.set_cons_succ]
        refine storeK (i := 14) (b := w.heap.size + 1) #[.slice A ns.length c, .slice A2 ls.length c2, .slice A7 rs.length c7, .slice A8 ds.length c8] (Stable.and (Stable.and (Stable.held _ _) (stable_blkN (w.heap.size + 1) 98 4)) (stable_fi (w.heap.size + 1 + 1) (.slice A7 rs.length c7) rs (.slice A8 ds.length c8) ds)) (fun W hS => by obtain ⟨⟨hH, q1⟩, q2⟩ := hS; exact q1) (fun W hS => by obtain ⟨⟨hH, q1⟩, q2⟩ := hS; exact ⟨⟨hH.setRowAt (by simp; omega) (Nat.le_succ _) _, q1.setRow rfl⟩, q2.setRow (Nat.lt_succ_self _) _⟩) rfl (by kernel_rfl) (by rfl) rfl (by rfl) (by rfl) rfl (by kernel_rfl) (by simp [Value.oneCell']) ?_
        simp only [Act.put, List.setIfInBounds_toArray, List.set_cons_zero, List.set_cons_succ]
        refine takeW (i := 15) (v := ?_) (Stable.and (Stable.and (Stable.and (Stable.held _ _) (stable_blkN (w.heap.size + 1) 98 4)) (stable_fi (w.heap.size + 1 + 1) (.slice A7 rs.length c7) rs (.slice A8 ds.length c8) ds)) (stable_blkIs _ _ _)) rfl (by kernel_rfl) (by kernel_rfl) (by kernel_rfl) (fun _ _ _ h => h) ?_ ?_
        rotate_left
        · first | (refine Or.inl ⟨by rfl, fun W hS => detR_value (w' := W) ?_ (Below.refl _ _)⟩; obtain ⟨⟨⟨hH, q1⟩, q2⟩, hs⟩ := hS; obtain ⟨x0, x1, x2, x3, _⟩ := hH.1; go_simp; first | done | with_reducible rfl) | fail
        simp only [Act.put, List.setIfInBounds_toArray, List.set_cons_zero, List.set_cons_succ]
        refine doneW (by kernel_rfl) fun wH7 HG => ?_
        obtain ⟨⟨⟨hH, q1⟩, q2⟩, hs⟩ := HG
        have H7 := Lib.hid hH; clear hH
        have MH7_q1 := Lib.hid q1; clear q1
        have MH7_q2 := Lib.hid q2; clear q2
        have MH7_s := Lib.hid hs; clear hs
        try clear x0 x1 x2 x3
        have r0 := (cell_of_cells (k := 0) MH7_s.out).trans (rfl : _ = some (Value.slice A ns.length c))
        have r1 := (cell_of_cells (k := 1) MH7_s.out).trans (rfl : _ = some (Value.slice A2 ls.length c2))
        have r2 := (cell_of_cells (k := 2) MH7_s.out).trans (rfl : _ = some (Value.slice A7 rs.length c7))
        have r3 := (cell_of_cells (k := 3) MH7_s.out).trans (rfl : _ = some (Value.slice A8 ds.length c8))
        go_wp2_with fail
        refine bodyPost_ret (v := .tuple #[.agg #[.slice A ns.length c, .slice A2 ls.length c2, .slice A7 rs.length c7, .slice A8 ds.length c8], .bool false]) (by simp [results, Tryz.results83, go_sem, r0, r1, r2, r3]) rfl ⟨_, _, _, _, by rw [HRES.out], ?_, ?_, ?_, ?_, H7.out.below⟩
        · rw [HGN.out]; exact HN.out.step H7.out.below
        · rw [HGL2.out]; exact HL.out.step H7.out.below
        · rw [HWF.out]; exact MH7_q2.out.f.mono (by omega)
        · rw [HGA.out]; exact MH7_q2.out.a.mono (by omega)
      · replace HRES := Lib.hid (show res = true from by rw [HRES.out]; rfl)
        refine regionW (fun W => ((Held _ W [(w1.heap.size, 0, .slice A ns.length c), (w1.heap.size, 1, .slice A2 ls.length c2), (w1.heap.size, 2, .slice A7 rs.length c7), (w1.heap.size, 3, .slice A8 ds.length c8)]) ∧ BlkN (w.heap.size + 1) 98 4 W) ∧ FI (w.heap.size + 1 + 1) (.slice A7 rs.length c7) rs (.slice A8 ds.length c8) ds W) (by kernel_rfl) ⟨⟨H8.out.drew, HK9.out⟩, (FI9.out).step ((Below.refl _ _).drew)⟩ ?_
        refine takeW (i := 0) (v := ?_) (Stable.and (Stable.and (Stable.held _ _) (stable_blkN (w.heap.size + 1) 98 4)) (stable_fi (w.heap.size + 1 + 1) (.slice A7 rs.length c7) rs (.slice A8 ds.length c8) ds)) rfl (by kernel_rfl) (by kernel_rfl) (by kernel_rfl) (fun _ _ _ h => h) ?_ ?_
        rotate_left
        · first | (refine Or.inl ⟨by rfl, fun W hS => detR_value (w' := W) ?_ (Below.refl _ _)⟩; obtain ⟨⟨hH, q1⟩, q2⟩ := hS; obtain ⟨x0, x1, x2, x3, _⟩ := hH.1; go_simp; first | done | with_reducible rfl) | fail
        simp only [Act.put, List.setIfInBounds_toArray, List.set_cons_zero, List.set_cons_succ]
        refine takeW (i := 1) (v := ?_) (Stable.and (Stable.and (Stable.held _ _) (stable_blkN (w.heap.size + 1) 98 4)) (stable_fi (w.heap.size + 1 + 1) (.slice A7 rs.length c7) rs (.slice A8 ds.length c8) ds)) rfl (by kernel_rfl) (by kernel_rfl) (by kernel_rfl) (fun _ _ _ h => h) ?_ ?_
        rotate_left
        · first | (refine Or.inl ⟨by rfl, fun W hS => detR_value (w' := W) ?_ (Below.refl _ _)⟩; obtain ⟨⟨hH, q1⟩, q2⟩ := hS; obtain ⟨x0, x1, x2, x3, _⟩ := hH.1; go_simp; first | done | with_reducible rfl) | fail
        simp only [Act.put, List.setIfInBounds_toArray, List.set_cons_zero, List.set_cons_succ]
        refine takeW (i := 2) (v := ?_) (Stable.and (Stable.and (Stable.held _ _) (stable_blkN (w.heap.size + 1) 98 4)) (stable_fi (w.heap.size + 1 + 1) (.slice A7 rs.length c7) rs (.slice A8 ds.length c8) ds)) rfl (by kernel_rfl) (by kernel_rfl) (by kernel_rfl) (fun _ _ _ h => h) ?_ ?_
        rotate_left
        · first | (refine Or.inl ⟨by rfl, fun W hS => detR_value (w' := W) ?_ (Below.refl _ _)⟩; obtain ⟨⟨hH, q1⟩, q2⟩ := hS; obtain ⟨x0, x1, x2, x3, _⟩ := hH.1; go_simp; first | done | with_reducible rfl) | fail
        simp only [Act.put, List.setIfInBounds_toArray, List.set_cons_zero, List.set_cons_succ]
        refine takeW (i := 3) (v := ?_) (Stable.and (Stable.and (Stable.held _ _) (stable_blkN (w.heap.size + 1) 98 4)) (stable_fi (w.heap.size + 1 + 1) (.slice A7 rs.length c7) rs (.slice A8 ds.length c8) ds)) rfl (by kernel_rfl) (by kernel_rfl) (by kernel_rfl) (fun _ _ _ h => h) ?_ ?_
        rotate_left
        · first | (refine Or.inr ⟨by rfl, ?_⟩; with_reducible rfl) | (refine Or.inl ⟨by rfl, fun W hS => detR_value (w' := W) ?_ (Below.refl _ _)⟩; obtain ⟨⟨hH, q1⟩, q2⟩ := hS; obtain ⟨x0, x1, x2, x3, _⟩ := hH.1; go_simp; first | done | with_reducible rfl) | fail
        simp only [Act.put, List.setIfInBounds_toArray, List.set_cons_zero, List.set_cons_succ]
        refine takeW (i := 4) (v := ?_) (Stable.and (Stable.and (Stable.held _ _) (stable_blkN (w.heap.size + 1) 98 4)) (stable_fi (w.heap.size + 1 + 1) (.slice A7 rs.length c7) rs (.slice A8 ds.length c8) ds)) rfl (by kernel_rfl) (by kernel_rfl) (by kernel_rfl) (fun _ _ _ h => h) ?_ ?_
        rotate_left
        · first | (refine Or.inr ⟨by rfl, ?_⟩; with_reducible rfl) | (refine Or.inl ⟨by rfl, fun W hS => detR_value (w' := W) ?_ (Below.refl _ _)⟩; obtain ⟨⟨hH, q1⟩, q2⟩ := hS; obtain ⟨x0, x1, x2, x3, _⟩ := hH.1; go_simp; first | done | with_reducible rfl) | fail
        simp only [Act.put, List.setIfInBounds_toArray, List.set_cons_zero, List.set_cons_succ]
        refine takeW (i := 5) (v := ?_) (Stable.and (Stable.and (Stable.held _ _) (stable_blkN (w.heap.size + 1) 98 4)) (stable_fi (w.heap.size + 1 + 1) (.slice A7 rs.length c7) rs (.slice A8 ds.length c8) ds)) rfl (by kernel_rfl) (by kernel_rfl) (by kernel_rfl) (fun _ _ _ h => h) ?_ ?_
        rotate_left
        · first | (refine Or.inr ⟨by rfl, ?_⟩; with_reducible rfl) | (refine Or.inl ⟨by rfl, fun W hS => detR_value (w' := W) ?_ (Below.refl _ _)⟩; obtain ⟨⟨hH, q1⟩, q2⟩ := hS; obtain ⟨x0, x1, x2, x3, _⟩ := hH.1; go_simp; first | done | with_reducible rfl) | fail
        simp only [Act.put, List.setIfInBounds_toArray, List.set_cons_zero, List.set_cons_succ]
        refine takeW (i := 6) (v := ?_) (Stable.and (Stable.and (Stable.held _ _) (stable_blkN (w.heap.size + 1) 98 4)) (stable_fi (w.heap.size + 1 + 1) (.slice A7 rs.length c7) rs (.slice A8 ds.length c8) ds)) rfl (by kernel_rfl) (by kernel_rfl) (by kernel_rfl) (fun _ _ _ h => h) ?_ ?_
        rotate_left
        · first | (refine Or.inr ⟨by rfl, ?_⟩; with_reducible rfl) | (refine Or.inl ⟨by rfl, fun W hS => detR_value (w' := W) ?_ (Below.refl _ _)⟩; obtain ⟨⟨hH, q1⟩, q2⟩ := hS; obtain ⟨x0, x1, x2, x3, _⟩ := hH.1; go_simp; first | done | with_reducible rfl) | fail
        simp only [Act.put, List.setIfInBounds_toArray, List.set_cons_zero, List.set_cons_succ]
        refine takeW (i := 7) (v := ?_) (Stable.and (Stable.and (Stable.held _ _) (stable_blkN (w.heap.size + 1) 98 4)) (stable_fi (w.heap.size + 1 + 1) (.slice A7 rs.length c7) rs (.slice A8 ds.length c8) ds)) rfl (by kernel_rfl) (by kernel_rfl) (by kernel_rfl) (fun _ _ _ h => h) ?_ ?_
        rotate_left
        · first | (refine Or.inr ⟨by rfl, ?_⟩; with_reducible rfl) | (refine Or.inl ⟨by rfl, fun W hS => detR_value (w' := W) ?_ (Below.refl _ _)⟩; obtain ⟨⟨hH, q1⟩, q2⟩ := hS; obtain ⟨x0, x1, x2, x3, _⟩ := hH.1; go_simp; first | done | with_reducible rfl) | fail
        simp only [Act.put, List.setIfInBounds_toArray, List.set_cons_zero, List.set_cons_succ]
        refine takeW (i := 8) (v := ?_) (Stable.and (Stable.and (Stable.held _ _) (stable_blkN (w.heap.size + 1) 98 4)) (stable_fi (w.heap.size + 1 + 1) (.slice A7 rs.length c7) rs (.slice A8 ds.length c8) ds)) rfl (by kernel_rfl) (by kernel_rfl) (by kernel_rfl) (fun _ _ _ h => h) ?_ ?_
        rotate_left
        · first | (refine Or.inr ⟨by rfl, ?_⟩; with_reducible rfl) | (refine Or.inl ⟨by rfl, fun W hS => detR_value (w' := W) ?_ (Below.refl _ _)⟩; obtain ⟨⟨hH, q1⟩, q2⟩ := hS; obtain ⟨x0, x1, x2, x3, _⟩ := hH.1; go_simp; first | done | with_reducible rfl) | fail
        simp only [Act.put, List.setIfInBounds_toArray, List.set_cons_zero, List.set_cons_succ]
        refine takeW (i := 9) (v := ?_) (Stable.and (Stable.and (Stable.held _ _) (stable_blkN (w.heap.size + 1) 98 4)) (stable_fi (w.heap.size + 1 + 1) (.slice A7 rs.length c7) rs (.slice A8 ds.length c8) ds)) rfl (by kernel_rfl) (by kernel_rfl) (by kernel_rfl) (fun _ _ _ h => h) ?_ ?_
        rotate_left
        · first | (refine Or.inl ⟨by rfl, fun W hS => detR_value (w' := W) ?_ (Below.refl _ _)⟩; obtain ⟨⟨hH, q1⟩, q2⟩ := hS; obtain ⟨x0, x1, x2, x3, _⟩ := hH.1; go_simp; first | done | with_reducible rfl) | fail
        simp only [Act.put, List.setIfInBounds_toArray, List.set_cons_zero, List.set_cons_succ]
        refine takeW (i := 10) (v := ?_) (Stable.and (Stable.and (Stable.held _ _) (stable_blkN (w.heap.size + 1) 98 4)) (stable_fi (w.heap.size + 1 + 1) (.slice A7 rs.length c7) rs (.slice A8 ds.length c8) ds)) rfl (by kernel_rfl) (by kernel_rfl) (by kernel_rfl) (fun _ _ _ h => h) ?_ ?_
        rotate_left
        · first | (refine Or.inl ⟨by rfl, fun W hS => detR_value (w' := W) ?_ (Below.refl _ _)⟩; obtain ⟨⟨hH, q1⟩, q2⟩ := hS; obtain ⟨x0, x1, x2, x3, _⟩ := hH.1; go_simp; first | done | with_reducible rfl) | fail
        simp only [Act.put, List.setIfInBounds_toArray, List.set_cons_zero, List.set_cons_succ]
        refine takeW (i := 11) (v := ?_) (Stable.and (Stable.and (Stable.held _ _) (stable_blkN (w.heap.size + 1) 98 4)) (stable_fi (w.heap.size + 1 + 1) (.slice A7 rs.length c7) rs (.slice A8 ds.length c8) ds)) rfl (by kernel_rfl) (by kernel_rfl) (by kernel_rfl) (fun _ _ _ h => h) ?_ ?_
        rotate_left
        · first | (refine Or.inr ⟨by rfl, ?_⟩; with_reducible rfl) | (refine Or.inl ⟨by rfl, fun W hS => detR_value (w' := W) ?_ (Below.refl _ _)⟩; obtain ⟨⟨hH, q1⟩, q2⟩ := hS; obtain ⟨x0, x1, x2, x3, _⟩ := hH.1; go_simp; first | done | with_reducible rfl) | fail
        simp only [Act.put, List.setIfInBounds_toArray, List.set_cons_zero, List.set_cons_succ]
        refine takeW (i := 12) (v := ?_) (Stable.and (Stable.and (Stable.held _ _) (stable_blkN (w.heap.size + 1) 98 4)) (stable_fi (w.heap.size + 1 + 1) (.slice A7 rs.length c7) rs (.slice A8 ds.length c8) ds)) rfl (by kernel_rfl) (by kernel_rfl) (by kernel_rfl) (fun _ _ _ h => h) ?_ ?_
        rotate_left
        · first | (refine Or.inr ⟨by rfl, ?_⟩; with_reducible rfl) | (refine Or.inl ⟨by rfl, fun W hS => ?_⟩; obtain ⟨⟨hH, q1⟩, q2⟩ := hS; refine detR_call (w' := W) (f := ?_) (args := ?_) ?_ ?_; rotate_left 2; (go_simp; (refine ⟨?_, ?_⟩ <;> with_reducible rfl)); (first | (with_reducible refine (HT.out _ hH.below).mono ?_) | fail); (first | (rintro e wn ⟨rfl, hb⟩; refine ⟨?_, hb⟩; with_reducible rfl) | (rintro e wn ⟨rfl, rfl⟩; refine ⟨?_, Below.refl _ _⟩; with_reducible rfl) | fail)) | fail
        simp only [Act.put, List.setIfInBounds_toArray, List.set_cons_zero, List.set_cons_succ]
        refine takeW (i := 13) (v := ?_) (Stable.and (Stable.and (Stable.held _ _) (stable_blkN (w.heap.size + 1) 98 4)) (stable_fi (w.heap.size + 1 + 1) (.slice A7 rs.length c7) rs (.slice A8 ds.length c8) ds)) rfl (by kernel_rfl) (by kernel_rfl) (by kernel_rfl) (fun _ _ _ h => h) ?_ ?_
        rotate_left
        · first | (refine Or.inl ⟨by rfl, fun W hS => detR_value (w' := W) ?_ (Below.refl _ _)⟩; obtain ⟨⟨hH, q1⟩, q2⟩ := hS; obtain ⟨x0, x1, x2, x3, _⟩ := hH.1; go_simp; first | done | with_reducible rfl) | fail
        simp only [Act.put, List.setIfInBounds_toArray, List.set_cons_zero, List.set_cons_succ]
        refine storeK (i := 14) (b := w.heap.size + 1) #[.slice A ns.length c, .slice A2 ls.length c2, .slice A7 rs.length c7, .slice A8 ds.length c8] (Stable.and (Stable.and (Stable.held _ _) (stable_blkN (w.heap.size + 1) 98 4)) (stable_fi (w.heap.size + 1 + 1) (.slice A7 rs.length c7) rs (.slice A8 ds.length c8) ds)) (fun W hS => by obtain ⟨⟨hH, q1⟩, q2⟩ := hS; exact q1) (fun W hS => by obtain ⟨⟨hH, q1⟩, q2⟩ := hS; exact ⟨⟨hH.setRowAt (by simp; omega) (Nat.le_succ _) _, q1.setRow rfl⟩, q2.setRow (Nat.lt_succ_self _) _⟩) rfl (by kernel_rfl) (by rfl) rfl (by rfl) (by rfl) rfl (by kernel_rfl) (by simp [Value.oneCell']) ?_
        simp only [Act.put, List.setIfInBounds_toArray, List.set_cons_zero, List.set_cons_succ]
        refine takeW (i := 15) (v := ?_) (Stable.and (Stable.and (Stable.and (Stable.held _ _) (stable_blkN (w.heap.size + 1) 98 4)) (stable_fi (w.heap.size + 1 + 1) (.slice A7 rs.length c7) rs (.slice A8 ds.length c8) ds)) (stable_blkIs _ _ _)) rfl (by kernel_rfl) (by kernel_rfl) (by kernel_rfl) (fun _ _ _ h => h) ?_ ?_
        rotate_left
        · first | (refine Or.inl ⟨by rfl, fun W hS => detR_value (w' := W) ?_ (Below.refl _ _)⟩; obtain ⟨⟨⟨hH, q1⟩, q2⟩, hs⟩ := hS; obtain ⟨x0, x1, x2, x3, _⟩ := hH.1; go_simp; first | done | with_reducible rfl) | fail
        simp only [Act.put, List.setIfInBounds_toArray, List.set_cons_zero, List.set_cons_succ]
        refine doneW (by kernel_rfl) fun wH7 HG => ?_
        obtain ⟨⟨⟨hH, q1⟩, q2⟩, hs⟩ := HG
        have H7 := Lib.hid hH; clear hH
        have MH7_q1 := Lib.hid q1; clear q1
        have MH7_q2 := Lib.hid q2; clear q2
        have MH7_s := Lib.hid hs; clear hs
        try clear x0 x1 x2 x3
        have r0 := (cell_of_cells (k := 0) MH7_s.out).trans (rfl : _ = some (Value.slice A ns.length c))
        have r1 := (cell_of_cells (k := 1) MH7_s.out).trans (rfl : _ = some (Value.slice A2 ls.length c2))
        have r2 := (cell_of_cells (k := 2) MH7_s.out).trans (rfl : _ = some (Value.slice A7 rs.length c7))
        have r3 := (cell_of_cells (k := 3) MH7_s.out).trans (rfl : _ = some (Value.slice A8 ds.length c8))
        go_wp2_with fail
        refine bodyPost_ret (v := .tuple #[.agg #[.slice A ns.length c, .slice A2 ls.length c2, .slice A7 rs.length c7, .slice A8 ds.length c8], .bool true]) (by simp [results, Tryz.results83, go_sem, r0, r1, r2, r3]) rfl ⟨_, _, _, _, by rw [HRES.out], ?_, ?_, ?_, ?_, H7.out.below⟩
        · rw [HGN.out]; exact HN.out.step H7.out.below
        · rw [HGL2.out]; exact HL.out.step H7.out.below
        · rw [HWF.out]; exact MH7_q2.out.f.mono (by omega)
        · rw [HGA.out]; exact MH7_q2.out.a.mono (by omega)
  · have HGY := Lib.hid (fun w h1 h2 => implGlassNo ns ls vn vl w h1 h2 (by simpa using hh))
    unfold GlassNo at HGY
    have HGN := Lib.hid (show gN ns ls = [] from if_neg hh)
    have HGL2 := Lib.hid (show gL ns ls = [] from if_neg hh)
    have HGA := Lib.hid (show gA ns ls = [] from if_neg hh)
    have HWF := Lib.hid (show wF ns ls = [] from if_neg hh)
    unfold GlassL
    have HRES := Lib.hid (show listB ns ls 0 3000 xs = false from by unfold listB; rw [show wholeB ns ls = false by simpa using hh]; rfl)
    generalize listB ns ls 0 3000 xs = res at *
    generalize wF ns ls = wf at *
    generalize gA ns ls = ga at *
    generalize gN ns ls = gn at *
    generalize gL ns ls = gl at *
    clear hh
    obtain ⟨A, c, rfl⟩ := prs_form2 hn
    obtain ⟨A2, c2, rfl⟩ := prs_form2 hl
    obtain ⟨A3, c3, rfl⟩ := seq_form2 hv
    clear hn hl hv
    go_enter Tryz.func83, Tryz.ntmps83
    go_wp2_with fail
    refine (HGY.out _ (HN.out.step H0.out.below) (HL.out.step H0.out.below)).mono ?_
    rintro e w1 ⟨rfl, hb⟩
    have H1 := Lib.hid (H0.out.step hb)
    have HB1 := Lib.hid (stable_blkN _ _ _ _ _ HB0.out hb)
    have hs1 := H1.out.2.1.1
    have H2 := Lib.hid (H1.out.new2 w1.heap.size rfl [.slice none 0 0, .slice none 0 0, .slice none 0 0, .slice none 0 0] 98)
    have H8 := Lib.hid (show Held w _ [(w1.heap.size, 0, .slice none 0 0), (w1.heap.size, 1, .slice none 0 0), (w1.heap.size, 2, .slice none 0 0), (w1.heap.size, 3, .slice none 0 0)] from H2.out.only (fun ⟨a, b, c, d, _⟩ => ⟨a, b, c, d, trivial⟩) (fun ⟨a, b, c, d, _⟩ => ⟨a, b, c, d, trivial⟩))
    have bq := below_alloc w1 (.cells #[.slice none 0 0, .slice none 0 0, .slice none 0 0, .slice none 0 0] 98)
    have HK9 := Lib.hid (stable_blkN _ _ _ _ _ HB1.out bq)
    clear hb bq H1 H2 HB0 HB1 H0 HGY
    obtain ⟨x0, x1, x2, x3, _⟩ := H8.out.1
    go_wp2_with fail
    generalize w1.alloc (.cells #[.slice none 0 0, .slice none 0 0, .slice none 0 0, .slice none 0 0] 98) = W8 at *
    refine regionW (fun W => (Held _ W [(w1.heap.size, 0, .slice none 0 0), (w1.heap.size, 1, .slice none 0 0), (w1.heap.size, 2, .slice none 0 0), (w1.heap.size, 3, .slice none 0 0)]) ∧ BlkN (w.heap.size + 1) 98 4 W) (by kernel_rfl) ⟨H8.out.drew, HK9.out⟩ ?_
    refine takeW (i := 0) (v := ?_) (Stable.and (Stable.held _ _) (stable_blkN (w.heap.size + 1) 98 4)) rfl (by kernel_rfl) (by kernel_rfl) (by kernel_rfl) (fun _ _ _ h => h) ?_ ?_
    rotate_left
    · first | (refine Or.inl ⟨by rfl, fun W hS => detR_value (w' := W) ?_ (Below.refl _ _)⟩; obtain ⟨hH, q1⟩ := hS; obtain ⟨x0, x1, x2, x3, _⟩ := hH.1; go_simp; first | done | with_reducible rfl) | fail
    simp only [Act.put, List.setIfInBounds_toArray, List.set_cons_zero, List.set_cons_succ]
    refine takeW (i := 1) (v := ?_) (Stable.and (Stable.held _ _) (stable_blkN (w.heap.size + 1) 98 4)) rfl (by kernel_rfl) (by kernel_rfl) (by kernel_rfl) (fun _ _ _ h => h) ?_ ?_
    rotate_left
    · first | (refine Or.inl ⟨by rfl, fun W hS => detR_value (w' := W) ?_ (Below.refl _ _)⟩; obtain ⟨hH, q1⟩ := hS; obtain ⟨x0, x1, x2, x3, _⟩ := hH.1; go_simp; first | done | with_reducible rfl) | fail
    simp only [Act.put, List.setIfInBounds_toArray, List.set_cons_zero, List.set_cons_succ]
    refine takeW (i := 2) (v := ?_) (Stable.and (Stable.held _ _) (stable_blkN (w.heap.size + 1) 98 4)) rfl (by kernel_rfl) (by kernel_rfl) (by kernel_rfl) (fun _ _ _ h => h) ?_ ?_
    rotate_left
    · first | (refine Or.inl ⟨by rfl, fun W hS => detR_value (w' := W) ?_ (Below.refl _ _)⟩; obtain ⟨hH, q1⟩ := hS; obtain ⟨x0, x1, x2, x3, _⟩ := hH.1; go_simp; first | done | with_reducible rfl) | fail
    simp only [Act.put, List.setIfInBounds_toArray, List.set_cons_zero, List.set_cons_succ]
    refine takeW (i := 3) (v := ?_) (Stable.and (Stable.held _ _) (stable_blkN (w.heap.size + 1) 98 4)) rfl (by kernel_rfl) (by kernel_rfl) (by kernel_rfl) (fun _ _ _ h => h) ?_ ?_
    rotate_left
    · first | (refine Or.inr ⟨by rfl, ?_⟩; with_reducible rfl) | (refine Or.inl ⟨by rfl, fun W hS => detR_value (w' := W) ?_ (Below.refl _ _)⟩; obtain ⟨hH, q1⟩ := hS; obtain ⟨x0, x1, x2, x3, _⟩ := hH.1; go_simp; first | done | with_reducible rfl) | fail
    simp only [Act.put, List.setIfInBounds_toArray, List.set_cons_zero, List.set_cons_succ]
    refine takeW (i := 4) (v := ?_) (Stable.and (Stable.held _ _) (stable_blkN (w.heap.size + 1) 98 4)) rfl (by kernel_rfl) (by kernel_rfl) (by kernel_rfl) (fun _ _ _ h => h) ?_ ?_
    rotate_left
    · first | (refine Or.inr ⟨by rfl, ?_⟩; with_reducible rfl) | (refine Or.inl ⟨by rfl, fun W hS => detR_value (w' := W) ?_ (Below.refl _ _)⟩; obtain ⟨hH, q1⟩ := hS; obtain ⟨x0, x1, x2, x3, _⟩ := hH.1; go_simp; first | done | with_reducible rfl) | fail
    simp only [Act.put, List.setIfInBounds_toArray, List.set_cons_zero, List.set_cons_succ]
    refine takeW (i := 5) (v := ?_) (Stable.and (Stable.held _ _) (stable_blkN (w.heap.size + 1) 98 4)) rfl (by kernel_rfl) (by kernel_rfl) (by kernel_rfl) (fun _ _ _ h => h) ?_ ?_
    rotate_left
    · first | (refine Or.inr ⟨by rfl, ?_⟩; with_reducible rfl) | (refine Or.inl ⟨by rfl, fun W hS => detR_value (w' := W) ?_ (Below.refl _ _)⟩; obtain ⟨hH, q1⟩ := hS; obtain ⟨x0, x1, x2, x3, _⟩ := hH.1; go_simp; first | done | with_reducible rfl) | fail
    simp only [Act.put, List.setIfInBounds_toArray, List.set_cons_zero, List.set_cons_succ]
    refine takeW (i := 6) (v := ?_) (Stable.and (Stable.held _ _) (stable_blkN (w.heap.size + 1) 98 4)) rfl (by kernel_rfl) (by kernel_rfl) (by kernel_rfl) (fun _ _ _ h => h) ?_ ?_
    rotate_left
    · first | (refine Or.inr ⟨by rfl, ?_⟩; with_reducible rfl) | (refine Or.inl ⟨by rfl, fun W hS => detR_value (w' := W) ?_ (Below.refl _ _)⟩; obtain ⟨hH, q1⟩ := hS; obtain ⟨x0, x1, x2, x3, _⟩ := hH.1; go_simp; first | done | with_reducible rfl) | fail
    simp only [Act.put, List.setIfInBounds_toArray, List.set_cons_zero, List.set_cons_succ]
    refine takeW (i := 7) (v := ?_) (Stable.and (Stable.held _ _) (stable_blkN (w.heap.size + 1) 98 4)) rfl (by kernel_rfl) (by kernel_rfl) (by kernel_rfl) (fun _ _ _ h => h) ?_ ?_
    rotate_left
    · first | (refine Or.inr ⟨by rfl, ?_⟩; with_reducible rfl) | (refine Or.inl ⟨by rfl, fun W hS => detR_value (w' := W) ?_ (Below.refl _ _)⟩; obtain ⟨hH, q1⟩ := hS; obtain ⟨x0, x1, x2, x3, _⟩ := hH.1; go_simp; first | done | with_reducible rfl) | fail
    simp only [Act.put, List.setIfInBounds_toArray, List.set_cons_zero, List.set_cons_succ]
    refine takeW (i := 8) (v := ?_) (Stable.and (Stable.held _ _) (stable_blkN (w.heap.size + 1) 98 4)) rfl (by kernel_rfl) (by kernel_rfl) (by kernel_rfl) (fun _ _ _ h => h) ?_ ?_
    rotate_left
    · first | (refine Or.inr ⟨by rfl, ?_⟩; with_reducible rfl) | (refine Or.inl ⟨by rfl, fun W hS => detR_value (w' := W) ?_ (Below.refl _ _)⟩; obtain ⟨hH, q1⟩ := hS; obtain ⟨x0, x1, x2, x3, _⟩ := hH.1; go_simp; first | done | with_reducible rfl) | fail
    simp only [Act.put, List.setIfInBounds_toArray, List.set_cons_zero, List.set_cons_succ]
    refine takeW (i := 9) (v := ?_) (Stable.and (Stable.held _ _) (stable_blkN (w.heap.size + 1) 98 4)) rfl (by kernel_rfl) (by kernel_rfl) (by kernel_rfl) (fun _ _ _ h => h) ?_ ?_
    rotate_left
    · first | (refine Or.inl ⟨by rfl, fun W hS => detR_value (w' := W) ?_ (Below.refl _ _)⟩; obtain ⟨hH, q1⟩ := hS; obtain ⟨x0, x1, x2, x3, _⟩ := hH.1; go_simp; first | done | with_reducible rfl) | fail
    simp only [Act.put, List.setIfInBounds_toArray, List.set_cons_zero, List.set_cons_succ]
    refine takeW (i := 10) (v := ?_) (Stable.and (Stable.held _ _) (stable_blkN (w.heap.size + 1) 98 4)) rfl (by kernel_rfl) (by kernel_rfl) (by kernel_rfl) (fun _ _ _ h => h) ?_ ?_
    rotate_left
    · first | (refine Or.inl ⟨by rfl, fun W hS => detR_value (w' := W) ?_ (Below.refl _ _)⟩; obtain ⟨hH, q1⟩ := hS; obtain ⟨x0, x1, x2, x3, _⟩ := hH.1; go_simp; first | done | with_reducible rfl) | fail
    simp only [Act.put, List.setIfInBounds_toArray, List.set_cons_zero, List.set_cons_succ]
    refine takeW (i := 11) (v := ?_) (Stable.and (Stable.held _ _) (stable_blkN (w.heap.size + 1) 98 4)) rfl (by kernel_rfl) (by kernel_rfl) (by kernel_rfl) (fun _ _ _ h => h) ?_ ?_
    rotate_left
    · first | (refine Or.inr ⟨by rfl, ?_⟩; with_reducible rfl) | (refine Or.inl ⟨by rfl, fun W hS => detR_value (w' := W) ?_ (Below.refl _ _)⟩; obtain ⟨hH, q1⟩ := hS; obtain ⟨x0, x1, x2, x3, _⟩ := hH.1; go_simp; first | done | with_reducible rfl) | fail
    simp only [Act.put, List.setIfInBounds_toArray, List.set_cons_zero, List.set_cons_succ]
    refine takeW (i := 12) (v := ?_) (Stable.and (Stable.held _ _) (stable_blkN (w.heap.size + 1) 98 4)) rfl (by kernel_rfl) (by kernel_rfl) (by kernel_rfl) (fun _ _ _ h => h) ?_ ?_
    rotate_left
    · first | (refine Or.inr ⟨by rfl, ?_⟩; with_reducible rfl) | (refine Or.inl ⟨by rfl, fun W hS => ?_⟩; obtain ⟨hH, q1⟩ := hS; refine detR_call (w' := W) (f := ?_) (args := ?_) ?_ ?_; rotate_left 2; (go_simp; (refine ⟨?_, ?_⟩ <;> with_reducible rfl)); (first | (with_reducible refine (HT.out _ hH.below).mono ?_) | fail); (first | (rintro e wn ⟨rfl, hb⟩; refine ⟨?_, hb⟩; with_reducible rfl) | (rintro e wn ⟨rfl, rfl⟩; refine ⟨?_, Below.refl _ _⟩; with_reducible rfl) | fail)) | fail
    simp only [Act.put, List.setIfInBounds_toArray, List.set_cons_zero, List.set_cons_succ]
    refine takeW (i := 13) (v := ?_) (Stable.and (Stable.held _ _) (stable_blkN (w.heap.size + 1) 98 4)) rfl (by kernel_rfl) (by kernel_rfl) (by kernel_rfl) (fun _ _ _ h => h) ?_ ?_
    rotate_left
    · first | (refine Or.inl ⟨by rfl, fun W hS => detR_value (w' := W) ?_ (Below.refl _ _)⟩; obtain ⟨hH, q1⟩ := hS; obtain ⟨x0, x1, x2, x3, _⟩ := hH.1; go_simp; first | done | with_reducible rfl) | fail
    simp only [Act.put, List.setIfInBounds_toArray, List.set_cons_zero, List.set_cons_succ]
    refine storeK (i := 14) (b := w.heap.size + 1) #[.slice none 0 0, .slice none 0 0, .slice none 0 0, .slice none 0 0] (Stable.and (Stable.held _ _) (stable_blkN (w.heap.size + 1) 98 4)) (fun W hS => by obtain ⟨hH, q1⟩ := hS; exact q1) (fun W hS => by obtain ⟨hH, q1⟩ := hS; exact ⟨hH.setRowAt (by simp; omega) (Nat.le_succ _) _, q1.setRow rfl⟩) rfl (by kernel_rfl) (by rfl) rfl (by rfl) (by rfl) rfl (by kernel_rfl) (by simp [Value.oneCell']) ?_
    simp only [Act.put, List.setIfInBounds_toArray, List.set_cons_zero, List.set_cons_succ]
    refine takeW (i := 15) (v := ?_) (Stable.and (Stable.and (Stable.held _ _) (stable_blkN (w.heap.size + 1) 98 4)) (stable_blkIs _ _ _)) rfl (by kernel_rfl) (by kernel_rfl) (by kernel_rfl) (fun _ _ _ h => h) ?_ ?_
    rotate_left
    · first | (refine Or.inl ⟨by rfl, fun W hS => detR_value (w' := W) ?_ (Below.refl _ _)⟩; obtain ⟨⟨hH, q1⟩, hs⟩ := hS; obtain ⟨x0, x1, x2, x3, _⟩ := hH.1; go_simp; first | done | with_reducible rfl) | fail
    simp only [Act.put, List.setIfInBounds_toArray, List.set_cons_zero, List.set_cons_succ]
    refine doneW (by kernel_rfl) fun wH7 HG => ?_
    obtain ⟨⟨hH, q1⟩, hs⟩ := HG
    have H7 := Lib.hid hH; clear hH
    have MH7_q1 := Lib.hid q1; clear q1
    have MH7_s := Lib.hid hs; clear hs
    try clear x0 x1 x2 x3
    have r0 := (cell_of_cells (k := 0) MH7_s.out).trans (rfl : _ = some (Value.slice none 0 0))
    have r1 := (cell_of_cells (k := 1) MH7_s.out).trans (rfl : _ = some (Value.slice none 0 0))
    have r2 := (cell_of_cells (k := 2) MH7_s.out).trans (rfl : _ = some (Value.slice none 0 0))
    have r3 := (cell_of_cells (k := 3) MH7_s.out).trans (rfl : _ = some (Value.slice none 0 0))
    go_wp2_with fail
    refine bodyPost_ret (v := .tuple #[.agg #[.slice none 0 0, .slice none 0 0, .slice none 0 0, .slice none 0 0], .bool false]) (by simp [results, Tryz.results83, go_sem, r0, r1, r2, r3]) rfl ⟨_, _, _, _, by rw [HRES.out], ?_, ?_, ?_, ?_, H7.out.below⟩
    · rw [HGN.out]; exact prs_nil _
    · rw [HGL2.out]; exact prs_nil _
    · rw [HWF.out]; exact Faces.nil _ _
    · rw [HGA.out]; exact Ints.nil _ _

end Go.Proofs.YtepacoacalhdcaaGreat
