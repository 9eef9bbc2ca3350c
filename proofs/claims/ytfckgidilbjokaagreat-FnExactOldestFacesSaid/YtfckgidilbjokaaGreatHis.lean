/-
  A valid history of a whole window; proper colors of one: of the program.
-/
import Derived.Test.YtfckgidilbjokaaGreatCsh
import Derived.Test.YtfckgidilbjokaaGreatG4
namespace Go.Proofs.YtfckgidilbjokaaGreat
open Go.RowKit
set_option linter.unusedVariables false
set_option linter.unusedSimpArgs false

/-- A glass and a bool are returned. -/
def GlassL (b : Bool) (ns ls : List Nd) (w : World) (e : Ending) (w' : World) : Prop :=
  ∃ v1 v2 v3 v4, e = .returned (.tuple #[.agg #[v1, v2, v3, v4], .bool b]) ∧ Prs w' v1 (gN ns ls) ∧ Prs w' v2 (gL ns ls) ∧ Faces w' w.heap.size v3 (wF ns ls) ∧ Ints w' w.heap.size v4 (gA ns ls) ∧ Below w.heap.size w w'
theorem dec_len (a b : Nat) : decide (a = b) = ((a : Int) == (b : Int)) := by
  rw [Bool.eq_iff_iff]
  simp
  omega
/-- The faces and the faces of the darts lie in blocks from B on. -/
structure FI (B : Nat) (vf : Value) (rs : List (List Int)) (va : Value) (ds : List Int) (W : World) : Prop where
  f : Faces W B vf rs
  a : Ints W B va ds
theorem FI.step {B : Nat} {vf va : Value} {rs : List (List Int)} {ds : List Int} {W W' : World} (h : FI B vf rs va ds W) (hb : Below W.heap.size W W') : FI B vf rs va ds W' := ⟨h.f.step hb, h.a.step hb⟩
theorem stable_fi (B : Nat) (vf : Value) (rs : List (List Int)) (va : Value) (ds : List Int) : Stable fun W => FI B vf rs va ds W := fun _ _ h hb => h.step hb
theorem FI.setRow {B b : Nat} {vf va : Value} {rs : List (List Int)} {ds : List Int} {W : World} (h : FI B vf rs va ds W) (hb : b < B) (cs : Array Value) : FI B vf rs va ds (W.setRow b cs) := by
  have e : ∀ k, B ≤ k → (W.setRow b cs).heap[k]? = W.heap[k]? := fun k hk => setRow_other W b k cs (by omega)
  obtain ⟨⟨us, hf⟩, ha⟩ := h
  exact ⟨⟨us, hf.row.keep fun k hk => e k (hf.row.own k hk).1, hf.len, fun j hj => (hf.each j hj).keep fun k hk => e k ((hf.each j hj).own k hk).1, hf.asc⟩, ha.keep fun k hk => e k (ha.own k hk).1⟩

set_option maxRecDepth 100000 in
set_option maxHeartbeats 4000000 in
theorem implHistG (ns ls : List Nd) (xs : List Int) (vn vl v : Value) (w : World) (hn : Prs w vn ns) (hl : Prs w vl ls) (hv : Seq w v xs) :
    Calls Tryz.prog 64 #[.agg #[vn, vl], v] w (GlassL (listB ns ls 0 3000 xs) ns ls w) := by
  have HN := Lib.hid hn
  have HL := Lib.hid hl
  have HV := Lib.hid hv
  have H0 := Lib.hid (held_glass w vn vl 32 72)
  have HB0 := Lib.hid (show BlkN (w.heap.size + 1) 72 4 ((w.alloc (.cells #[vn, vl] 32)).alloc (.cells #[.slice none 0 0, .slice none 0 0, .slice none 0 0, .slice none 0 0] 72)) from ⟨_, by
    have := heap_alloc_new (w.alloc (.cells #[vn, vl] 32)) (.cells #[.slice none 0 0, .slice none 0 0, .slice none 0 0, .slice none 0 0] 72)
    simpa using this, rfl⟩)
  have HT := Lib.hid (fun W hb => implInR xs v 0 3000 W (hv.step hb))
  unfold BoolIs at HT
  generalize hr : inR xs 0 3000 = r at *
  have HINR := Lib.hid hr; clear hr
  by_cases hh : wholeB ns ls = true
  · have HGY := Lib.hid (fun w h1 h2 => implGlassYes ns ls vn vl w h1 h2 hh)
    unfold GlassYes at HGY
    have HGN := Lib.hid (show gN ns ls = ns from if_pos hh)
    have HGL2 := Lib.hid (show gL ns ls = ls from if_pos hh)
    have HGA := Lib.hid (show gA ns ls = atW ns ls from if_pos hh)
    have HWF := Lib.hid (show wF ns ls = facesL ns ls from if_pos hh)
    unfold GlassL
    have HRES := Lib.hid (show listB ns ls 0 3000 xs = (((xs.length : Int) == ((facesL ns ls).length : Int)) && r) from by unfold listB; rw [hh, dec_len, HINR.out, HWF.out]; rfl)
    generalize listB ns ls 0 3000 xs = res at *
    generalize wF ns ls = wf at *
    generalize gA ns ls = ga at *
    generalize gN ns ls = gn at *
    generalize gL ns ls = gl at *
    generalize facesL ns ls = rs at *
    generalize atW ns ls = ds at *
    clear hh
    obtain ⟨A, c, rfl⟩ := prs_form2 hn
    obtain ⟨A2, c2, rfl⟩ := prs_form2 hl
    obtain ⟨A3, c3, rfl⟩ := seq_form2 hv
    clear hn hl hv
    go_enter Tryz.func64, Tryz.ntmps64
    go_wp2_with fail
    refine (HGY.out _ (HN.out.step H0.out.below) (HL.out.step H0.out.below)).mono ?_
    rintro e w1 ⟨vf, va, rfl, g3, g4, hb⟩
    have H1 := Lib.hid (H0.out.step hb)
    have HB1 := Lib.hid (stable_blkN _ _ _ _ _ HB0.out hb)
    have hs1 := H1.out.2.1.1
    have g3 := g3.mono (b' := w.heap.size + 1 + 1) (by simp)
    have g4 := g4.mono (b' := w.heap.size + 1 + 1) (by simp)
    obtain ⟨A7, c7, rfl⟩ := faces_form g3
    obtain ⟨A8, c8, rfl⟩ := ints_form g4
    have FI1 := Lib.hid (FI.mk g3 g4)
    have H2 := Lib.hid (H1.out.new2 w1.heap.size rfl [.slice A ns.length c, .slice A2 ls.length c2, .slice A7 rs.length c7, .slice A8 ds.length c8] 72)
    have H8 := Lib.hid (show Held w _ [(w1.heap.size, 0, .slice A ns.length c), (w1.heap.size, 1, .slice A2 ls.length c2), (w1.heap.size, 2, .slice A7 rs.length c7), (w1.heap.size, 3, .slice A8 ds.length c8)] from H2.out.only (fun ⟨a, b, c, d, _⟩ => ⟨a, b, c, d, trivial⟩) (fun ⟨a, b, c, d, _⟩ => ⟨a, b, c, d, trivial⟩))
    have bq := below_alloc w1 (.cells #[.slice A ns.length c, .slice A2 ls.length c2, .slice A7 rs.length c7, .slice A8 ds.length c8] 72)
    have HK9 := Lib.hid (stable_blkN _ _ _ _ _ HB1.out bq)
    have FI9 := Lib.hid (FI1.out.step bq)
    clear hb g3 g4 bq H1 H2 HB0 HB1 FI1 H0 HGY
    obtain ⟨x0, x1, x2, x3, _⟩ := H8.out.1
    go_wp2_with fail
    generalize w1.alloc (.cells #[.slice A ns.length c, .slice A2 ls.length c2, .slice A7 rs.length c7, .slice A8 ds.length c8] 72) = W8 at *
    obtain ⟨q, hq⟩ : ∃ q, ((xs.length : Int) == (rs.length : Int)) = q := ⟨_, rfl⟩
    rw [hq] at HRES
    cases q
    · replace HRES := Lib.hid (show res = false from by rw [HRES.out]; rfl)
      refine regionW (fun W => ((Held _ W [(w1.heap.size, 0, .slice A ns.length c), (w1.heap.size, 1, .slice A2 ls.length c2), (w1.heap.size, 2, .slice A7 rs.length c7), (w1.heap.size, 3, .slice A8 ds.length c8)]) ∧ BlkN (w.heap.size + 1) 72 4 W) ∧ FI (w.heap.size + 1 + 1) (.slice A7 rs.length c7) rs (.slice A8 ds.length c8) ds W) (by kernel_rfl) ⟨⟨H8.out.drew, HK9.out⟩, (FI9.out).step ((Below.refl _ _).drew)⟩ ?_
      refine takeW (i := 0) (v := ?_) (Stable.and (Stable.and (Stable.held _ _) (stable_blkN (w.heap.size + 1) 72 4)) (stable_fi (w.heap.size + 1 + 1) (.slice A7 rs.length c7) rs (.slice A8 ds.length c8) ds)) rfl (by kernel_rfl) (by kernel_rfl) (by kernel_rfl) (fun _ _ _ h => h) ?_ ?_
      rotate_left
      · first | (refine Or.inl ⟨by rfl, fun W hS => detR_value (w' := W) ?_ (Below.refl _ _)⟩; obtain ⟨⟨hH, q1⟩, q2⟩ := hS; obtain ⟨x0, x1, x2, x3, _⟩ := hH.1; go_simp; first | done | with_reducible rfl) | fail
      simp only [Act.put, List.setIfInBounds_toArray, List.set_cons_zero, List.set_cons_succ]
      refine takeW (i := 1) (v := ?_) (Stable.and (Stable.and (Stable.held _ _) (stable_blkN (w.heap.size + 1) 72 4)) (stable_fi (w.heap.size + 1 + 1) (.slice A7 rs.length c7) rs (.slice A8 ds.length c8) ds)) rfl (by kernel_rfl) (by kernel_rfl) (by kernel_rfl) (fun _ _ _ h => h) ?_ ?_
      rotate_left
      · first | (refine Or.inl ⟨by rfl, fun W hS => detR_value (w' := W) ?_ (Below.refl _ _)⟩; obtain ⟨⟨hH, q1⟩, q2⟩ := hS; obtain ⟨x0, x1, x2, x3, _⟩ := hH.1; go_simp; first | done | with_reducible rfl) | fail
      simp only [Act.put, List.setIfInBounds_toArray, List.set_cons_zero, List.set_cons_succ]
      refine takeW (i := 2) (v := ?_) (Stable.and (Stable.and (Stable.held _ _) (stable_blkN (w.heap.size + 1) 72 4)) (stable_fi (w.heap.size + 1 + 1) (.slice A7 rs.length c7) rs (.slice A8 ds.length c8) ds)) rfl (by kernel_rfl) (by kernel_rfl) (by kernel_rfl) (fun _ _ _ h => h) ?_ ?_
      rotate_left
      · first | (refine Or.inl ⟨by rfl, fun W hS => detR_value (w' := W) ?_ (Below.refl _ _)⟩; obtain ⟨⟨hH, q1⟩, q2⟩ := hS; obtain ⟨x0, x1, x2, x3, _⟩ := hH.1; go_simp; first | done | with_reducible rfl) | fail
      simp only [Act.put, List.setIfInBounds_toArray, List.set_cons_zero, List.set_cons_succ]
      refine takeW (i := 3) (v := ?_) (Stable.and (Stable.and (Stable.held _ _) (stable_blkN (w.heap.size + 1) 72 4)) (stable_fi (w.heap.size + 1 + 1) (.slice A7 rs.length c7) rs (.slice A8 ds.length c8) ds)) rfl (by kernel_rfl) (by kernel_rfl) (by kernel_rfl) (fun _ _ _ h => h) ?_ ?_
      rotate_left
      · first | (refine Or.inr ⟨by rfl, ?_⟩; with_reducible rfl) | (refine Or.inl ⟨by rfl, fun W hS => detR_value (w' := W) ?_ (Below.refl _ _)⟩; obtain ⟨⟨hH, q1⟩, q2⟩ := hS; obtain ⟨x0, x1, x2, x3, _⟩ := hH.1; go_simp; first | done | with_reducible rfl) | fail
      simp only [Act.put, List.setIfInBounds_toArray, List.set_cons_zero, List.set_cons_succ]
      refine takeW (i := 4) (v := ?_) (Stable.and (Stable.and (Stable.held _ _) (stable_blkN (w.heap.size + 1) 72 4)) (stable_fi (w.heap.size + 1 + 1) (.slice A7 rs.length c7) rs (.slice A8 ds.length c8) ds)) rfl (by kernel_rfl) (by kernel_rfl) (by kernel_rfl) (fun _ _ _ h => h) ?_ ?_
      rotate_left
      · first | (refine Or.inr ⟨by rfl, ?_⟩; with_reducible rfl) | (refine Or.inl ⟨by rfl, fun W hS => detR_value (w' := W) ?_ (Below.refl _ _)⟩; obtain ⟨⟨hH, q1⟩, q2⟩ := hS; obtain ⟨x0, x1, x2, x3, _⟩ := hH.1; go_simp; first | done | with_reducible rfl) | fail
      simp only [Act.put, List.setIfInBounds_toArray, List.set_cons_zero, List.set_cons_succ]
      refine takeW (i := 5) (v := ?_) (Stable.and (Stable.and (Stable.held _ _) (stable_blkN (w.heap.size + 1) 72 4)) (stable_fi (w.heap.size + 1 + 1) (.slice A7 rs.length c7) rs (.slice A8 ds.length c8) ds)) rfl (by kernel_rfl) (by kernel_rfl) (by kernel_rfl) (fun _ _ _ h => h) ?_ ?_
      rotate_left
      · first | (refine Or.inr ⟨by rfl, ?_⟩; with_reducible rfl) | (refine Or.inl ⟨by rfl, fun W hS => detR_value (w' := W) ?_ (Below.refl _ _)⟩; obtain ⟨⟨hH, q1⟩, q2⟩ := hS; obtain ⟨x0, x1, x2, x3, _⟩ := hH.1; go_simp; first | done | with_reducible rfl) | fail
      simp only [Act.put, List.setIfInBounds_toArray, List.set_cons_zero, List.set_cons_succ]
      refine takeW (i := 6) (v := ?_) (Stable.and (Stable.and (Stable.held _ _) (stable_blkN (w.heap.size + 1) 72 4)) (stable_fi (w.heap.size + 1 + 1) (.slice A7 rs.length c7) rs (.slice A8 ds.length c8) ds)) rfl (by kernel_rfl) (by kernel_rfl) (by kernel_rfl) (fun _ _ _ h => h) ?_ ?_
      rotate_left
      · first | (refine Or.inr ⟨by rfl, ?_⟩; with_reducible rfl) | (refine Or.inl ⟨by rfl, fun W hS => detR_value (w' := W) ?_ (Below.refl _ _)⟩; obtain ⟨⟨hH, q1⟩, q2⟩ := hS; obtain ⟨x0, x1, x2, x3, _⟩ := hH.1; go_simp; first | done | with_reducible rfl) | fail
      simp only [Act.put, List.setIfInBounds_toArray, List.set_cons_zero, List.set_cons_succ]
      refine takeW (i := 7) (v := ?_) (Stable.and (Stable.and (Stable.held _ _) (stable_blkN (w.heap.size + 1) 72 4)) (stable_fi (w.heap.size + 1 + 1) (.slice A7 rs.length c7) rs (.slice A8 ds.length c8) ds)) rfl (by kernel_rfl) (by kernel_rfl) (by kernel_rfl) (fun _ _ _ h => h) ?_ ?_
      rotate_left
      · first | (refine Or.inr ⟨by rfl, ?_⟩; with_reducible rfl) | (refine Or.inl ⟨by rfl, fun W hS => detR_value (w' := W) ?_ (Below.refl _ _)⟩; obtain ⟨⟨hH, q1⟩, q2⟩ := hS; obtain ⟨x0, x1, x2, x3, _⟩ := hH.1; go_simp; first | done | with_reducible rfl) | fail
      simp only [Act.put, List.setIfInBounds_toArray, List.set_cons_zero, List.set_cons_succ]
      refine takeW (i := 8) (v := ?_) (Stable.and (Stable.and (Stable.held _ _) (stable_blkN (w.heap.size + 1) 72 4)) (stable_fi (w.heap.size + 1 + 1) (.slice A7 rs.length c7) rs (.slice A8 ds.length c8) ds)) rfl (by kernel_rfl) (by kernel_rfl) (by kernel_rfl) (fun _ _ _ h => h) ?_ ?_
      rotate_left
      · first | (refine Or.inr ⟨by rfl, ?_⟩; with_reducible rfl) | (refine Or.inl ⟨by rfl, fun W hS => detR_value (w' := W) ?_ (Below.refl _ _)⟩; obtain ⟨⟨hH, q1⟩, q2⟩ := hS; obtain ⟨x0, x1, x2, x3, _⟩ := hH.1; go_simp; first | done | with_reducible rfl) | fail
      simp only [Act.put, List.setIfInBounds_toArray, List.set_cons_zero, List.set_cons_succ]
      refine takeW (i := 9) (v := ?_) (Stable.and (Stable.and (Stable.held _ _) (stable_blkN (w.heap.size + 1) 72 4)) (stable_fi (w.heap.size + 1 + 1) (.slice A7 rs.length c7) rs (.slice A8 ds.length c8) ds)) rfl (by kernel_rfl) (by kernel_rfl) (by kernel_rfl) (fun _ _ _ h => h) ?_ ?_
      rotate_left
      · first | (refine Or.inl ⟨by rfl, fun W hS => detR_value (w' := W) ?_ (Below.refl _ _)⟩; obtain ⟨⟨hH, q1⟩, q2⟩ := hS; obtain ⟨x0, x1, x2, x3, _⟩ := hH.1; go_simp; first | done | with_reducible rfl) | fail
      simp only [Act.put, List.setIfInBounds_toArray, List.set_cons_zero, List.set_cons_succ]
      refine takeW (i := 10) (v := ?_) (Stable.and (Stable.and (Stable.held _ _) (stable_blkN (w.heap.size + 1) 72 4)) (stable_fi (w.heap.size + 1 + 1) (.slice A7 rs.length c7) rs (.slice A8 ds.length c8) ds)) rfl (by kernel_rfl) (by kernel_rfl) (by kernel_rfl) (fun _ _ _ h => h) ?_ ?_
      rotate_left
      · first | (refine Or.inl ⟨by rfl, fun W hS => detR_value (w' := W) ?_ (Below.refl _ _)⟩; obtain ⟨⟨hH, q1⟩, q2⟩ := hS; obtain ⟨x0, x1, x2, x3, _⟩ := hH.1; go_simp; first | done | with_reducible rfl) | fail
      simp only [Act.put, List.setIfInBounds_toArray, List.set_cons_zero, List.set_cons_succ]
      refine takeW (i := 11) (v := ?_) (Stable.and (Stable.and (Stable.held _ _) (stable_blkN (w.heap.size + 1) 72 4)) (stable_fi (w.heap.size + 1 + 1) (.slice A7 rs.length c7) rs (.slice A8 ds.length c8) ds)) rfl (by kernel_rfl) (by kernel_rfl) (by kernel_rfl) (fun _ _ _ h => h) ?_ ?_
      rotate_left
      · first | (refine Or.inr ⟨by rfl, ?_⟩; with_reducible rfl) | (refine Or.inl ⟨by rfl, fun W hS => detR_value (w' := W) ?_ (Below.refl _ _)⟩; obtain ⟨⟨hH, q1⟩, q2⟩ := hS; obtain ⟨x0, x1, x2, x3, _⟩ := hH.1; go_simp; first | done | with_reducible rfl) | fail
      simp only [Act.put, List.setIfInBounds_toArray, List.set_cons_zero, List.set_cons_succ]
      refine takeW (i := 12) (v := ?_) (Stable.and (Stable.and (Stable.held _ _) (stable_blkN (w.heap.size + 1) 72 4)) (stable_fi (w.heap.size + 1 + 1) (.slice A7 rs.length c7) rs (.slice A8 ds.length c8) ds)) rfl (by kernel_rfl) (by kernel_rfl) (by kernel_rfl) (fun _ _ _ h => h) ?_ ?_
      rotate_left
      · first | (refine Or.inr ⟨by rfl, ?_⟩; with_reducible rfl) | (refine Or.inl ⟨by rfl, fun W hS => ?_⟩; obtain ⟨⟨hH, q1⟩, q2⟩ := hS; refine detR_call (w' := W) (f := ?_) (args := ?_) ?_ ?_; rotate_left 2; (go_simp; (refine ⟨?_, ?_⟩ <;> with_reducible rfl)); (first | (with_reducible refine (HT.out _ hH.below).mono ?_) | fail); (first | (rintro e wn ⟨rfl, hb⟩; refine ⟨?_, hb⟩; with_reducible rfl) | (rintro e wn ⟨rfl, rfl⟩; refine ⟨?_, Below.refl _ _⟩; with_reducible rfl) | fail)) | fail
      simp only [Act.put, List.setIfInBounds_toArray, List.set_cons_zero, List.set_cons_succ]
      refine takeW (i := 13) (v := ?_) (Stable.and (Stable.and (Stable.held _ _) (stable_blkN (w.heap.size + 1) 72 4)) (stable_fi (w.heap.size + 1 + 1) (.slice A7 rs.length c7) rs (.slice A8 ds.length c8) ds)) rfl (by kernel_rfl) (by kernel_rfl) (by kernel_rfl) (fun _ _ _ h => h) ?_ ?_
      rotate_left
      · first | (refine Or.inl ⟨by rfl, fun W hS => detR_value (w' := W) ?_ (Below.refl _ _)⟩; obtain ⟨⟨hH, q1⟩, q2⟩ := hS; obtain ⟨x0, x1, x2, x3, _⟩ := hH.1; go_simp; first | done | with_reducible rfl) | fail
      simp only [Act.put, List.setIfInBounds_toArray, List.set_cons_zero, List.set_cons_succ]
      refine storeK (i := 14) (b := w.heap.size + 1) #[.slice A ns.length c, .slice A2 ls.length c2, .slice A7 rs.length c7, .slice A8 ds.length c8] (Stable.and (Stable.and (Stable.held _ _) (stable_blkN (w.heap.size + 1) 72 4)) (stable_fi (w.heap.size + 1 + 1) (.slice A7 rs.length c7) rs (.slice A8 ds.length c8) ds)) (fun W hS => by obtain ⟨⟨hH, q1⟩, q2⟩ := hS; exact q1) (fun W hS => by obtain ⟨⟨hH, q1⟩, q2⟩ := hS; exact ⟨⟨hH.setRowAt (by simp; omega) (Nat.le_succ _) _, q1.setRow rfl⟩, q2.setRow (Nat.lt_succ_self _) _⟩) rfl (by kernel_rfl) (by rfl) rfl (by rfl) (by rfl) rfl (by kernel_rfl) (by simp [Value.oneCell']) ?_
      simp only [Act.put, List.setIfInBounds_toArray, List.set_cons_zero, List.set_cons_succ]
      refine takeW (i := 15) (v := ?_) (Stable.and (Stable.and (Stable.and (Stable.held _ _) (stable_blkN (w.heap.size + 1) 72 4)) (stable_fi (w.heap.size + 1 + 1) (.slice A7 rs.length c7) rs (.slice A8 ds.length c8) ds)) (stable_blkIs _ _ _)) rfl (by kernel_rfl) (by kernel_rfl) (by kernel_rfl) (fun _ _ _ h => h) ?_ ?_
      rotate_left
      · first | (refine Or.inl ⟨by rfl, fun W hS => detR_value (w' := W) ?_ (Below.refl _ _)⟩; obtain ⟨⟨⟨hH, q1⟩, q2⟩, hs⟩ := hS; obtain ⟨x0, x1, x2, x3, _⟩ := hH.1; go_simp; first | done | with_reducible rfl) | fail
      simp only [Act.put, List.setIfInBounds_toArray, List.set_cons_zero, List.set_cons_succ]
      refine doneW (by kernel_rfl) fun wH7 HG => ?_
      obtain ⟨⟨⟨hH, q1⟩, q2⟩, hs⟩ := HG
      have H7 := Lib.hid hH; clear hH
      have MH7_q1 := Lib.hid q1; clear q1
      have MH7_q2 := Lib.hid q2; clear q2
      have MH7_s := Lib.hid hs; clear hs
      try clear x0 x1 x2 x3
      have r0 := (cell_of_cells (k := 0) MH7_s.out).trans (rfl : _ = some (Value.slice A ns.length c))
      have r1 := (cell_of_cells (k := 1) MH7_s.out).trans (rfl : _ = some (Value.slice A2 ls.length c2))
      have r2 := (cell_of_cells (k := 2) MH7_s.out).trans (rfl : _ = some (Value.slice A7 rs.length c7))
      have r3 := (cell_of_cells (k := 3) MH7_s.out).trans (rfl : _ = some (Value.slice A8 ds.length c8))
      go_wp2_with fail
      refine bodyPost_ret (v := .tuple #[.agg #[.slice A ns.length c, .slice A2 ls.length c2, .slice A7 rs.length c7, .slice A8 ds.length c8], .bool false]) (by simp [results, Tryz.results55, go_sem, r0, r1, r2, r3]) rfl ⟨_, _, _, _, by rw [HRES.out], ?_, ?_, ?_, ?_, H7.out.below⟩
      · rw [HGN.out]; exact HN.out.step H7.out.below
      · rw [HGL2.out]; exact HL.out.step H7.out.below
      · rw [HWF.out]; exact MH7_q2.out.f.mono (by omega)
      · rw [HGA.out]; exact MH7_q2.out.a.mono (by omega)
    · cases r
      · replace HRES := Lib.hid (show res = false from by rw [HRES.out]; rfl)
        refine regionW (fun W => ((Held _ W [(w1.heap.size, 0, .slice A ns.length c), (w1.heap.size, 1, .slice A2 ls.length c2), (w1.heap.size, 2, .slice A7 rs.length c7), (w1.heap.size, 3, .slice A8 ds.length c8)]) ∧ BlkN (w.heap.size + 1) 72 4 W) ∧ FI (w.heap.size + 1 + 1) (.slice A7 rs.length c7) rs (.slice A8 ds.length c8) ds W) (by kernel_rfl) ⟨⟨H8.out.drew, HK9.out⟩, (FI9.out).step ((Below.refl _ _).drew)⟩ ?_
        refine takeW (i := 0) (v := ?_) (Stable.and (Stable.and (Stable.held _ _) (stable_blkN (w.heap.size + 1) 72 4)) (stable_fi (w.heap.size + 1 + 1) (.slice A7 rs.length c7) rs (.slice A8 ds.length c8) ds)) rfl (by kernel_rfl) (by kernel_rfl) (by kernel_rfl) (fun _ _ _ h => h) ?_ ?_
        rotate_left
        · first | (refine Or.inl ⟨by rfl, fun W hS => detR_value (w' := W) ?_ (Below.refl _ _)⟩; obtain ⟨⟨hH, q1⟩, q2⟩ := hS; obtain ⟨x0, x1, x2, x3, _⟩ := hH.1; go_simp; first | done | with_reducible rfl) | fail
        simp only [Act.put, List.setIfInBounds_toArray, List.set_cons_zero, List.set_cons_succ]
        refine takeW (i := 1) (v := ?_) (Stable.and (Stable.and (Stable.held _ _) (stable_blkN (w.heap.size + 1) 72 4)) (stable_fi (w.heap.size + 1 + 1) (.slice A7 rs.length c7) rs (.slice A8 ds.length c8) ds)) rfl (by kernel_rfl) (by kernel_rfl) (by kernel_rfl) (fun _ _ _ h => h) ?_ ?_
        rotate_left
        · first | (refine Or.inl ⟨by rfl, fun W hS => detR_value (w' := W) ?_ (Below.refl _ _)⟩; obtain ⟨⟨hH, q1⟩, q2⟩ := hS; obtain ⟨x0, x1, x2, x3, _⟩ := hH.1; go_simp; first | done | with_reducible rfl) | fail
        simp only [Act.put, List.setIfInBounds_toArray, List.set_cons_zero, List.set_cons_succ]
        refine takeW (i := 2) (v := ?_) (Stable.and (Stable.and (Stable.held _ _) (stable_blkN (w.heap.size + 1) 72 4)) (stable_fi (w.heap.size + 1 + 1) (.slice A7 rs.length c7) rs (.slice A8 ds.length c8) ds)) rfl (by kernel_rfl) (by kernel_rfl) (by kernel_rfl) (fun _ _ _ h => h) ?_ ?_
        rotate_left
        · first | (refine Or.inl ⟨by rfl, fun W hS => detR_value (w' := W) ?_ (Below.refl _ _)⟩; obtain ⟨⟨hH, q1⟩, q2⟩ := hS; obtain ⟨x0, x1, x2, x3, _⟩ := hH.1; go_simp; first | done | with_reducible rfl) | fail
        simp only [Act.put, List.setIfInBounds_toArray, List.set_cons_zero, List.set_cons_succ]
        refine takeW (i := 3) (v := ?_) (Stable.and (Stable.and (Stable.held _ _) (stable_blkN (w.heap.size + 1) 72 4)) (stable_fi (w.heap.size + 1 + 1) (.slice A7 rs.length c7) rs (.slice A8 ds.length c8) ds)) rfl (by kernel_rfl) (by kernel_rfl) (by kernel_rfl) (fun _ _ _ h => h) ?_ ?_
        rotate_left
        · first | (refine Or.inr ⟨by rfl, ?_⟩; with_reducible rfl) | (refine Or.inl ⟨by rfl, fun W hS => detR_value (w' := W) ?_ (Below.refl _ _)⟩; obtain ⟨⟨hH, q1⟩, q2⟩ := hS; obtain ⟨x0, x1, x2, x3, _⟩ := hH.1; go_simp; first | done | with_reducible rfl) | fail
        simp only [Act.put, List.setIfInBounds_toArray, List.set_cons_zero, List.set_cons_succ]
        refine takeW (i := 4) (v := ?_) (Stable.and (Stable.and (Stable.held _ _) (stable_blkN (w.heap.size + 1) 72 4)) (stable_fi (w.heap.size + 1 + 1) (.slice A7 rs.length c7) rs (.slice A8 ds.length c8) ds)) rfl (by kernel_rfl) (by kernel_rfl) (by kernel_rfl) (fun _ _ _ h => h) ?_ ?_
        rotate_left
        · first | (refine Or.inr ⟨by rfl, ?_⟩; with_reducible rfl) | (refine Or.inl ⟨by rfl, fun W hS => detR_value (w' := W) ?_ (Below.refl _ _)⟩; obtain ⟨⟨hH, q1⟩, q2⟩ := hS; obtain ⟨x0, x1, x2, x3, _⟩ := hH.1; go_simp; first | done | with_reducible rfl) | fail
        simp only [Act.put, List.setIfInBounds_toArray, List.set_cons_zero, List.set_cons_succ]
        refine takeW (i := 5) (v := ?_) (Stable.and (Stable.and (Stable.held _ _) (stable_blkN (w.heap.size + 1) 72 4)) (stable_fi (w.heap.size + 1 + 1) (.slice A7 rs.length c7) rs (.slice A8 ds.length c8) ds)) rfl (by kernel_rfl) (by kernel_rfl) (by kernel_rfl) (fun _ _ _ h => h) ?_ ?_
        rotate_left
        · first | (refine Or.inr ⟨by rfl, ?_⟩; with_reducible rfl) | (refine Or.inl ⟨by rfl, fun W hS => detR_value (w' := W) ?_ (Below.refl _ _)⟩; obtain ⟨⟨hH, q1⟩, q2⟩ := hS; obtain ⟨x0, x1, x2, x3, _⟩ := hH.1; go_simp; first | done | with_reducible rfl) | fail
        simp only [Act.put, List.setIfInBounds_toArray, List.set_cons_zero, List.set_cons_succ]
        refine takeW (i := 6) (v := ?_) (Stable.and (Stable.and (Stable.held _ _) (stable_blkN (w.heap.size + 1) 72 4)) (stable_fi (w.heap.size + 1 + 1) (.slice A7 rs.length c7) rs (.slice A8 ds.length c8) ds)) rfl (by kernel_rfl) (by kernel_rfl) (by kernel_rfl) (fun _ _ _ h => h) ?_ ?_
        rotate_left
        · first | (refine Or.inr ⟨by rfl, ?_⟩; with_reducible rfl) | (refine Or.inl ⟨by rfl, fun W hS => detR_value (w' := W) ?_ (Below.refl _ _)⟩; obtain ⟨⟨hH, q1⟩, q2⟩ := hS; obtain ⟨x0, x1, x2, x3, _⟩ := hH.1; go_simp; first | done | with_reducible rfl) | fail
        simp only [Act.put, List.setIfInBounds_toArray, List.set_cons_zero, List.set_cons_succ]
        refine takeW (i := 7) (v := ?_) (Stable.and (Stable.and (Stable.held _ _) (stable_blkN (w.heap.size + 1) 72 4)) (stable_fi (w.heap.size + 1 + 1) (.slice A7 rs.length c7) rs (.slice A8 ds.length c8) ds)) rfl (by kernel_rfl) (by kernel_rfl) (by kernel_rfl) (fun _ _ _ h => h) ?_ ?_
        rotate_left
        · first | (refine Or.inr ⟨by rfl, ?_⟩; with_reducible rfl) | (refine Or.inl ⟨by rfl, fun W hS => detR_value (w' := W) ?_ (Below.refl _ _)⟩; obtain ⟨⟨hH, q1⟩, q2⟩ := hS; obtain ⟨x0, x1, x2, x3, _⟩ := hH.1; go_simp; first | done | with_reducible rfl) | fail
        simp only [Act.put, List.setIfInBounds_toArray, List.set_cons_zero, List.set_cons_succ]
        refine takeW (i := 8) (v := ?_) (Stable.and (Stable.and (Stable.held _ _) (stable_blkN (w.heap.size + 1) 72 4)) (stable_fi (w.heap.size + 1 + 1) (.slice A7 rs.length c7) rs (.slice A8 ds.length c8) ds)) rfl (by kernel_rfl) (by kernel_rfl) (by kernel_rfl) (fun _ _ _ h => h) ?_ ?_
        rotate_left
        · first | (refine Or.inr ⟨by rfl, ?_⟩; with_reducible rfl) | (refine Or.inl ⟨by rfl, fun W hS => detR_value (w' := W) ?_ (Below.refl _ _)⟩; obtain ⟨⟨hH, q1⟩, q2⟩ := hS; obtain ⟨x0, x1, x2, x3, _⟩ := hH.1; go_simp; first | done | with_reducible rfl) | fail
        simp only [Act.put, List.setIfInBounds_toArray, List.set_cons_zero, List.set_cons_succ]
        refine takeW (i := 9) (v := ?_) (Stable.and (Stable.and (Stable.held _ _) (stable_blkN (w.heap.size + 1) 72 4)) (stable_fi (w.heap.size + 1 + 1) (.slice A7 rs.length c7) rs (.slice A8 ds.length c8) ds)) rfl (by kernel_rfl) (by kernel_rfl) (by kernel_rfl) (fun _ _ _ h => h) ?_ ?_
        rotate_left
        · first | (refine Or.inl ⟨by rfl, fun W hS => detR_value (w' := W) ?_ (Below.refl _ _)⟩; obtain ⟨⟨hH, q1⟩, q2⟩ := hS; obtain ⟨x0, x1, x2, x3, _⟩ := hH.1; go_simp; first | done | with_reducible rfl) | fail
        simp only [Act.put, List.setIfInBounds_toArray, List.set_cons_zero, List.set_cons_succ]
        refine takeW (i := 10) (v := ?_) (Stable.and (Stable.and (Stable.held _ _) (stable_blkN (w.heap.size + 1) 72 4)) (stable_fi (w.heap.size + 1 + 1) (.slice A7 rs.length c7) rs (.slice A8 ds.length c8) ds)) rfl (by kernel_rfl) (by kernel_rfl) (by kernel_rfl) (fun _ _ _ h => h) ?_ ?_
        rotate_left
        · first | (refine Or.inl ⟨by rfl, fun W hS => detR_value (w' := W) ?_ (Below.refl _ _)⟩; obtain ⟨⟨hH, q1⟩, q2⟩ := hS; obtain ⟨x0, x1, x2, x3, _⟩ := hH.1; go_simp; first | done | with_reducible rfl) | fail
        simp only [Act.put, List.setIfInBounds_toArray, List.set_cons_zero, List.set_cons_succ]
        refine takeW (i := 11) (v := ?_) (Stable.and (Stable.and (Stable.held _ _) (stable_blkN (w.heap.size + 1) 72 4)) (stable_fi (w.heap.size + 1 + 1) (.slice A7 rs.length c7) rs (.slice A8 ds.length c8) ds)) rfl (by kernel_rfl) (by kernel_rfl) (by kernel_rfl) (fun _ _ _ h => h) ?_ ?_
        rotate_left
        · first | (refine Or.inr ⟨by rfl, ?_⟩; with_reducible rfl) | (refine Or.inl ⟨by rfl, fun W hS => detR_value (w' := W) ?_ (Below.refl _ _)⟩; obtain ⟨⟨hH, q1⟩, q2⟩ := hS; obtain ⟨x0, x1, x2, x3, _⟩ := hH.1; go_simp; first | done | with_reducible rfl) | fail
        simp only [Act.put, List.setIfInBounds_toArray, List.set_cons_zero, List.set_cons_succ]
        refine takeW (i := 12) (v := ?_) (Stable.and (Stable.and (Stable.held _ _) (stable_blkN (w.heap.size + 1) 72 4)) (stable_fi (w.heap.size + 1 + 1) (.slice A7 rs.length c7) rs (.slice A8 ds.length c8) ds)) rfl (by kernel_rfl) (by kernel_rfl) (by kernel_rfl) (fun _ _ _ h => h) ?_ ?_
        rotate_left
        · first | (refine Or.inr ⟨by rfl, ?_⟩; with_reducible rfl) | (refine Or.inl ⟨by rfl, fun W hS => ?_⟩; obtain ⟨⟨hH, q1⟩, q2⟩ := hS; refine detR_call (w' := W) (f := ?_) (args := ?_) ?_ ?_; rotate_left 2; (go_simp; (refine ⟨?_, ?_⟩ <;> with_reducible rfl)); (first | (with_reducible refine (HT.out _ hH.below).mono ?_) | fail); (first | (rintro e wn ⟨rfl, hb⟩; refine ⟨?_, hb⟩; with_reducible rfl) | (rintro e wn ⟨rfl, rfl⟩; refine ⟨?_, Below.refl _ _⟩; with_reducible rfl) | fail)) | fail
        simp only [Act.put, List.setIfInBounds_toArray, List.set_cons_zero, List.set_cons_succ]
        refine takeW (i := 13) (v := ?_) (Stable.and (Stable.and (Stable.held _ _) (stable_blkN (w.heap.size + 1) 72 4)) (stable_fi (w.heap.size + 1 + 1) (.slice A7 rs.length c7) rs (.slice A8 ds.length c8) ds)) rfl (by kernel_rfl) (by kernel_rfl) (by kernel_rfl) (fun _ _ _ h => h) ?_ ?_
        rotate_left
        · first | (refine Or.inl ⟨by rfl, fun W hS => detR_value (w' := W) ?_ (Below.refl _ _)⟩; obtain ⟨⟨hH, q1⟩, q2⟩ := hS; obtain ⟨x0, x1, x2, x3, _⟩ := hH.1; go_simp; first | done | with_reducible rfl) | fail
        simp only [Act.put, List.setIfInBounds_toArray, List.set_cons_zero, List.set_cons_succ]
        refine storeK (i := 14) (b := w.heap.size + 1) #[.slice A ns.length c, .slice A2 ls.length c2, .slice A7 rs.length c7, .slice A8 ds.length c8] (Stable.and (Stable.and (Stable.held _ _) (stable_blkN (w.heap.size + 1) 72 4)) (stable_fi (w.heap.size + 1 + 1) (.slice A7 rs.length c7) rs (.slice A8 ds.length c8) ds)) (fun W hS => by obtain ⟨⟨hH, q1⟩, q2⟩ := hS; exact q1) (fun W hS => by obtain ⟨⟨hH, q1⟩, q2⟩ := hS; exact ⟨⟨hH.setRowAt (by simp; omega) (Nat.le_succ _) _, q1.setRow rfl⟩, q2.setRow (Nat.lt_succ_self _) _⟩) rfl (by kernel_rfl) (by rfl) rfl (by rfl) (by rfl) rfl (by kernel_rfl) (by simp [Value.oneCell']) ?_
        simp only [Act.put, List.setIfInBounds_toArray, List.set_cons_zero, List.set_cons_succ]
        refine takeW (i := 15) (v := ?_) (Stable.and (Stable.and (Stable.and (Stable.held _ _) (stable_blkN (w.heap.size + 1) 72 4)) (stable_fi (w.heap.size + 1 + 1) (.slice A7 rs.length c7) rs (.slice A8 ds.length c8) ds)) (stable_blkIs _ _ _)) rfl (by kernel_rfl) (by kernel_rfl) (by kernel_rfl) (fun _ _ _ h => h) ?_ ?_
        rotate_left
        · first | (refine Or.inl ⟨by rfl, fun W hS => detR_value (w' := W) ?_ (Below.refl _ _)⟩; obtain ⟨⟨⟨hH, q1⟩, q2⟩, hs⟩ := hS; obtain ⟨x0, x1, x2, x3, _⟩ := hH.1; go_simp; first | done | with_reducible rfl) | fail
        simp only [Act.put, List.setIfInBounds_toArray, List.set_cons_zero, List.set_cons_succ]
        refine doneW (by kernel_rfl) fun wH7 HG => ?_
        obtain ⟨⟨⟨hH, q1⟩, q2⟩, hs⟩ := HG
        have H7 := Lib.hid hH; clear hH
        have MH7_q1 := Lib.hid q1; clear q1
        have MH7_q2 := Lib.hid q2; clear q2
        have MH7_s := Lib.hid hs; clear hs
        try clear x0 x1 x2 x3
        have r0 := (cell_of_cells (k := 0) MH7_s.out).trans (rfl : _ = some (Value.slice A ns.length c))
        have r1 := (cell_of_cells (k := 1) MH7_s.out).trans (rfl : _ = some (Value.slice A2 ls.length c2))
        have r2 := (cell_of_cells (k := 2) MH7_s.out).trans (rfl : _ = some (Value.slice A7 rs.length c7))
        have r3 := (cell_of_cells (k := 3) MH7_s.out).trans (rfl : _ = some (Value.slice A8 ds.length c8))
        go_wp2_with fail
        refine bodyPost_ret (v := .tuple #[.agg #[.slice A ns.length c, .slice A2 ls.length c2, .slice A7 rs.length c7, .slice A8 ds.length c8], .bool false]) (by simp [results, Tryz.results55, go_sem, r0, r1, r2, r3]) rfl ⟨_, _, _, _, by rw [HRES.out], ?_, ?_, ?_, ?_, H7.out.below⟩
        · rw [HGN.out]; exact HN.out.step H7.out.below
        · rw [HGL2.out]; exact HL.out.step H7.out.below
        · rw [HWF.out]; exact MH7_q2.out.f.mono (by omega)
        · rw [HGA.out]; exact MH7_q2.out.a.mono (by omega)
      · replace HRES := Lib.hid (show res = true from by rw [HRES.out]; rfl)
        refine regionW (fun W => ((Held _ W [(w1.heap.size, 0, .slice A ns.length c), (w1.heap.size, 1, .slice A2 ls.length c2), (w1.heap.size, 2, .slice A7 rs.length c7), (w1.heap.size, 3, .slice A8 ds.length c8)]) ∧ BlkN (w.heap.size + 1) 72 4 W) ∧ FI (w.heap.size + 1 + 1) (.slice A7 rs.length c7) rs (.slice A8 ds.length c8) ds W) (by kernel_rfl) ⟨⟨H8.out.drew, HK9.out⟩, (FI9.out).step ((Below.refl _ _).drew)⟩ ?_
        refine takeW (i := 0) (v := ?_) (Stable.and (Stable.and (Stable.held _ _) (stable_blkN (w.heap.size + 1) 72 4)) (stable_fi (w.heap.size + 1 + 1) (.slice A7 rs.length c7) rs (.slice A8 ds.length c8) ds)) rfl (by kernel_rfl) (by kernel_rfl) (by kernel_rfl) (fun _ _ _ h => h) ?_ ?_
        rotate_left
        · first | (refine Or.inl ⟨by rfl, fun W hS => detR_value (w' := W) ?_ (Below.refl _ _)⟩; obtain ⟨⟨hH, q1⟩, q2⟩ := hS; obtain ⟨x0, x1, x2, x3, _⟩ := hH.1; go_simp; first | done | with_reducible rfl) | fail
        simp only [Act.put, List.setIfInBounds_toArray, List.set_cons_zero, List.set_cons_succ]
        refine takeW (i := 1) (v := ?_) (Stable.and (Stable.and (Stable.held _ _) (stable_blkN (w.heap.size + 1) 72 4)) (stable_fi (w.heap.size + 1 + 1) (.slice A7 rs.length c7) rs (.slice A8 ds.length c8) ds)) rfl (by kernel_rfl) (by kernel_rfl) (by kernel_rfl) (fun _ _ _ h => h) ?_ ?_
        rotate_left
        · first | (refine Or.inl ⟨by rfl, fun W hS => detR_value (w' := W) ?_ (Below.refl _ _)⟩; obtain ⟨⟨hH, q1⟩, q2⟩ := hS; obtain ⟨x0, x1, x2, x3, _⟩ := hH.1; go_simp; first | done | with_reducible rfl) | fail
        simp only [Act.put, List.setIfInBounds_toArray, List.set_cons_zero, List.set_cons_succ]
        refine takeW (i := 2) (v := ?_) (Stable.and (Stable.and (Stable.held _ _) (stable_blkN (w.heap.size + 1) 72 4)) (stable_fi (w.heap.size + 1 + 1) (.slice A7 rs.length c7) rs (.slice A8 ds.length c8) ds)) rfl (by kernel_rfl) (by kernel_rfl) (by kernel_rfl) (fun _ _ _ h => h) ?_ ?_
        rotate_left
        · first | (refine Or.inl ⟨by rfl, fun W hS => detR_value (w' := W) ?_ (Below.refl _ _)⟩; obtain ⟨⟨hH, q1⟩, q2⟩ := hS; obtain ⟨x0, x1, x2, x3, _⟩ := hH.1; go_simp; first | done | with_reducible rfl) | fail
        simp only [Act.put, List.setIfInBounds_toArray, List.set_cons_zero, List.set_cons_succ]
        refine takeW (i := 3) (v := ?_) (Stable.and (Stable.and (Stable.held _ _) (stable_blkN (w.heap.size + 1) 72 4)) (stable_fi (w.heap.size + 1 + 1) (.slice A7 rs.length c7) rs (.slice A8 ds.length c8) ds)) rfl (by kernel_rfl) (by kernel_rfl) (by kernel_rfl) (fun _ _ _ h => h) ?_ ?_
        rotate_left
        · first | (refine Or.inr ⟨by rfl, ?_⟩; with_reducible rfl) | (refine Or.inl ⟨by rfl, fun W hS => detR_value (w' := W) ?_ (Below.refl _ _)⟩; obtain ⟨⟨hH, q1⟩, q2⟩ := hS; obtain ⟨x0, x1, x2, x3, _⟩ := hH.1; go_simp; first | done | with_reducible rfl) | fail
        simp only [Act.put, List.setIfInBounds_toArray, List.set_cons_zero, List.set_cons_succ]
        refine takeW (i := 4) (v := ?_) (Stable.and (Stable.and (Stable.held _ _) (stable_blkN (w.heap.size + 1) 72 4)) (stable_fi (w.heap.size + 1 + 1) (.slice A7 rs.length c7) rs (.slice A8 ds.length c8) ds)) rfl (by kernel_rfl) (by kernel_rfl) (by kernel_rfl) (fun _ _ _ h => h) ?_ ?_
        rotate_left
        · first | (refine Or.inr ⟨by rfl, ?_⟩; with_reducible rfl) | (refine Or.inl ⟨by rfl, fun W hS => detR_value (w' := W) ?_ (Below.refl _ _)⟩; obtain ⟨⟨hH, q1⟩, q2⟩ := hS; obtain ⟨x0, x1, x2, x3, _⟩ := hH.1; go_simp; first | done | with_reducible rfl) | fail
        simp only [Act.put, List.setIfInBounds_toArray, List.set_cons_zero, List.set_cons_succ]
        refine takeW (i := 5) (v := ?_) (Stable.and (Stable.and (Stable.held _ _) (stable_blkN (w.heap.size + 1) 72 4)) (stable_fi (w.heap.size + 1 + 1) (.slice A7 rs.length c7) rs (.slice A8 ds.length c8) ds)) rfl (by kernel_rfl) (by kernel_rfl) (by kernel_rfl) (fun _ _ _ h => h) ?_ ?_
        rotate_left
        · first | (refine Or.inr ⟨by rfl, ?_⟩; with_reducible rfl) | (refine Or.inl ⟨by rfl, fun W hS => detR_value (w' := W) ?_ (Below.refl _ _)⟩; obtain ⟨⟨hH, q1⟩, q2⟩ := hS; obtain ⟨x0, x1, x2, x3, _⟩ := hH.1; go_simp; first | done | with_reducible rfl) | fail
        simp only [Act.put, List.setIfInBounds_toArray, List.set_cons_zero, List.set_cons_succ]
        refine takeW (i := 6) (v := ?_) (Stable.and (Stable.and (Stable.held _ _) (stable_blkN (w.heap.size + 1) 72 4)) (stable_fi (w.heap.size + 1 + 1) (.slice A7 rs.length c7) rs (.slice A8 ds.length c8) ds)) rfl (by kernel_rfl) (by kernel_rfl) (by kernel_rfl) (fun _ _ _ h => h) ?_ ?_
        rotate_left
        · first | (refine Or.inr ⟨by rfl, ?_⟩; with_reducible rfl) | (refine Or.inl ⟨by rfl, fun W hS => detR_value (w' := W) ?_ (Below.refl _ _)⟩; obtain ⟨⟨hH, q1⟩, q2⟩ := hS; obtain ⟨x0, x1, x2, x3, _⟩ := hH.1; go_simp; first | done | with_reducible rfl) | fail
        simp only [Act.put, List.setIfInBounds_toArray, List.set_cons_zero, List.set_cons_succ]
        refine takeW (i := 7) (v := ?_) (Stable.and (Stable.and (Stable.held _ _) (stable_blkN (w.heap.size + 1) 72 4)) (stable_fi (w.heap.size + 1 + 1) (.slice A7 rs.length c7) rs (.slice A8 ds.length c8) ds)) rfl (by kernel_rfl) (by kernel_rfl) (by kernel_rfl) (fun _ _ _ h => h) ?_ ?_
        rotate_left
        · first | (refine Or.inr ⟨by rfl, ?_⟩; with_reducible rfl) | (refine Or.inl ⟨by rfl, fun W hS => detR_value (w' := W) ?_ (Below.refl _ _)⟩; obtain ⟨⟨hH, q1⟩, q2⟩ := hS; obtain ⟨x0, x1, x2, x3, _⟩ := hH.1; go_simp; first | done | with_reducible rfl) | fail
        simp only [Act.put, List.setIfInBounds_toArray, List.set_cons_zero, List.set_cons_succ]
        refine takeW (i := 8) (v := ?_) (Stable.and (Stable.and (Stable.held _ _) (stable_blkN (w.heap.size + 1) 72 4)) (stable_fi (w.heap.size + 1 + 1) (.slice A7 rs.length c7) rs (.slice A8 ds.length c8) ds)) rfl (by kernel_rfl) (by kernel_rfl) (by kernel_rfl) (fun _ _ _ h => h) ?_ ?_
        rotate_left
        · first | (refine Or.inr ⟨by rfl, ?_⟩; with_reducible rfl) | (refine Or.inl ⟨by rfl, fun W hS => detR_value (w' := W) ?_ (Below.refl _ _)⟩; obtain ⟨⟨hH, q1⟩, q2⟩ := hS; obtain ⟨x0, x1, x2, x3, _⟩ := hH.1; go_simp; first | done | with_reducible rfl) | fail
        simp only [Act.put, List.setIfInBounds_toArray, List.set_cons_zero, List.set_cons_succ]
        refine takeW (i := 9) (v := ?_) (Stable.and (Stable.and (Stable.held _ _) (stable_blkN (w.heap.size + 1) 72 4)) (stable_fi (w.heap.size + 1 + 1) (.slice A7 rs.length c7) rs (.slice A8 ds.length c8) ds)) rfl (by kernel_rfl) (by kernel_rfl) (by kernel_rfl) (fun _ _ _ h => h) ?_ ?_
        rotate_left
        · first | (refine Or.inl ⟨by rfl, fun W hS => detR_value (w' := W) ?_ (Below.refl _ _)⟩; obtain ⟨⟨hH, q1⟩, q2⟩ := hS; obtain ⟨x0, x1, x2, x3, _⟩ := hH.1; go_simp; first | done | with_reducible rfl) | fail
        simp only [Act.put, List.setIfInBounds_toArray, List.set_cons_zero, List.set_cons_succ]
        refine takeW (i := 10) (v := ?_) (Stable.and (Stable.and (Stable.held _ _) (stable_blkN (w.heap.size + 1) 72 4)) (stable_fi (w.heap.size + 1 + 1) (.slice A7 rs.length c7) rs (.slice A8 ds.length c8) ds)) rfl (by kernel_rfl) (by kernel_rfl) (by kernel_rfl) (fun _ _ _ h => h) ?_ ?_
        rotate_left
        · first | (refine Or.inl ⟨by rfl, fun W hS => detR_value (w' := W) ?_ (Below.refl _ _)⟩; obtain ⟨⟨hH, q1⟩, q2⟩ := hS; obtain ⟨x0, x1, x2, x3, _⟩ := hH.1; go_simp; first | done | with_reducible rfl) | fail
        simp only [Act.put, List.setIfInBounds_toArray, List.set_cons_zero, List.set_cons_succ]
        refine takeW (i := 11) (v := ?_) (Stable.and (Stable.and (Stable.held _ _) (stable_blkN (w.heap.size + 1) 72 4)) (stable_fi (w.heap.size + 1 + 1) (.slice A7 rs.length c7) rs (.slice A8 ds.length c8) ds)) rfl (by kernel_rfl) (by kernel_rfl) (by kernel_rfl) (fun _ _ _ h => h) ?_ ?_
        rotate_left
        · first | (refine Or.inr ⟨by rfl, ?_⟩; with_reducible rfl) | (refine Or.inl ⟨by rfl, fun W hS => detR_value (w' := W) ?_ (Below.refl _ _)⟩; obtain ⟨⟨hH, q1⟩, q2⟩ := hS; obtain ⟨x0, x1, x2, x3, _⟩ := hH.1; go_simp; first | done | with_reducible rfl) | fail
        simp only [Act.put, List.setIfInBounds_toArray, List.set_cons_zero, List.set_cons_succ]
        refine takeW (i := 12) (v := ?_) (Stable.and (Stable.and (Stable.held _ _) (stable_blkN (w.heap.size + 1) 72 4)) (stable_fi (w.heap.size + 1 + 1) (.slice A7 rs.length c7) rs (.slice A8 ds.length c8) ds)) rfl (by kernel_rfl) (by kernel_rfl) (by kernel_rfl) (fun _ _ _ h => h) ?_ ?_
        rotate_left
        · first | (refine Or.inr ⟨by rfl, ?_⟩; with_reducible rfl) | (refine Or.inl ⟨by rfl, fun W hS => ?_⟩; obtain ⟨⟨hH, q1⟩, q2⟩ := hS; refine detR_call (w' := W) (f := ?_) (args := ?_) ?_ ?_; rotate_left 2; (go_simp; (refine ⟨?_, ?_⟩ <;> with_reducible rfl)); (first | (with_reducible refine (HT.out _ hH.below).mono ?_) | fail); (first | (rintro e wn ⟨rfl, hb⟩; refine ⟨?_, hb⟩; with_reducible rfl) | (rintro e wn ⟨rfl, rfl⟩; refine ⟨?_, Below.refl _ _⟩; with_reducible rfl) | fail)) | fail
        simp only [Act.put, List.setIfInBounds_toArray, List.set_cons_zero, List.set_cons_succ]
        refine takeW (i := 13) (v := ?_) (Stable.and (Stable.and (Stable.held _ _) (stable_blkN (w.heap.size + 1) 72 4)) (stable_fi (w.heap.size + 1 + 1) (.slice A7 rs.length c7) rs (.slice A8 ds.length c8) ds)) rfl (by kernel_rfl) (by kernel_rfl) (by kernel_rfl) (fun _ _ _ h => h) ?_ ?_
        rotate_left
        · first | (refine Or.inl ⟨by rfl, fun W hS => detR_value (w' := W) ?_ (Below.refl _ _)⟩; obtain ⟨⟨hH, q1⟩, q2⟩ := hS; obtain ⟨x0, x1, x2, x3, _⟩ := hH.1; go_simp; first | done | with_reducible rfl) | fail
        simp only [Act.put, List.setIfInBounds_toArray, List.set_cons_zero, List.set_cons_succ]
        refine storeK (i := 14) (b := w.heap.size + 1) #[.slice A ns.length c, .slice A2 ls.length c2, .slice A7 rs.length c7, .slice A8 ds.length c8] (Stable.and (Stable.and (Stable.held _ _) (stable_blkN (w.heap.size + 1) 72 4)) (stable_fi (w.heap.size + 1 + 1) (.slice A7 rs.length c7) rs (.slice A8 ds.length c8) ds)) (fun W hS => by obtain ⟨⟨hH, q1⟩, q2⟩ := hS; exact q1) (fun W hS => by obtain ⟨⟨hH, q1⟩, q2⟩ := hS; exact ⟨⟨hH.setRowAt (by simp; omega) (Nat.le_succ _) _, q1.setRow rfl⟩, q2.setRow (Nat.lt_succ_self _) _⟩) rfl (by kernel_rfl) (by rfl) rfl (by rfl) (by rfl) rfl (by kernel_rfl) (by simp [Value.oneCell']) ?_
        simp only [Act.put, List.setIfInBounds_toArray, List.set_cons_zero, List.set_cons_succ]
        refine takeW (i := 15) (v := ?_) (Stable.and (Stable.and (Stable.and (Stable.held _ _) (stable_blkN (w.heap.size + 1) 72 4)) (stable_fi (w.heap.size + 1 + 1) (.slice A7 rs.length c7) rs (.slice A8 ds.length c8) ds)) (stable_blkIs _ _ _)) rfl (by kernel_rfl) (by kernel_rfl) (by kernel_rfl) (fun _ _ _ h => h) ?_ ?_
        rotate_left
        · first | (refine Or.inl ⟨by rfl, fun W hS => detR_value (w' := W) ?_ (Below.refl _ _)⟩; obtain ⟨⟨⟨hH, q1⟩, q2⟩, hs⟩ := hS; obtain ⟨x0, x1, x2, x3, _⟩ := hH.1; go_simp; first | done | with_reducible rfl) | fail
        simp only [Act.put, List.setIfInBounds_toArray, List.set_cons_zero, List.set_cons_succ]
        refine doneW (by kernel_rfl) fun wH7 HG => ?_
        obtain ⟨⟨⟨hH, q1⟩, q2⟩, hs⟩ := HG
        have H7 := Lib.hid hH; clear hH
        have MH7_q1 := Lib.hid q1; clear q1
        have MH7_q2 := Lib.hid q2; clear q2
        have MH7_s := Lib.hid hs; clear hs
        try clear x0 x1 x2 x3
        have r0 := (cell_of_cells (k := 0) MH7_s.out).trans (rfl : _ = some (Value.slice A ns.length c))
        have r1 := (cell_of_cells (k := 1) MH7_s.out).trans (rfl : _ = some (Value.slice A2 ls.length c2))
        have r2 := (cell_of_cells (k := 2) MH7_s.out).trans (rfl : _ = some (Value.slice A7 rs.length c7))
        have r3 := (cell_of_cells (k := 3) MH7_s.out).trans (rfl : _ = some (Value.slice A8 ds.length c8))
        go_wp2_with fail
        refine bodyPost_ret (v := .tuple #[.agg #[.slice A ns.length c, .slice A2 ls.length c2, .slice A7 rs.length c7, .slice A8 ds.length c8], .bool true]) (by simp [results, Tryz.results55, go_sem, r0, r1, r2, r3]) rfl ⟨_, _, _, _, by rw [HRES.out], ?_, ?_, ?_, ?_, H7.out.below⟩
        · rw [HGN.out]; exact HN.out.step H7.out.below
        · rw [HGL2.out]; exact HL.out.step H7.out.below
        · rw [HWF.out]; exact MH7_q2.out.f.mono (by omega)
        · rw [HGA.out]; exact MH7_q2.out.a.mono (by omega)
  · have HGY := Lib.hid (fun w h1 h2 => implGlassNo ns ls vn vl w h1 h2 (by simpa using hh))
    unfold GlassNo at HGY
    have HGN := Lib.hid (show gN ns ls = [] from if_neg hh)
    have HGL2 := Lib.hid (show gL ns ls = [] from if_neg hh)
    have HGA := Lib.hid (show gA ns ls = [] from if_neg hh)
    have HWF := Lib.hid (show wF ns ls = [] from if_neg hh)
    unfold GlassL
    have HRES := Lib.hid (show listB ns ls 0 3000 xs = false from by unfold listB; rw [show wholeB ns ls = false by simpa using hh]; rfl)
    generalize listB ns ls 0 3000 xs = res at *
    generalize wF ns ls = wf at *
    generalize gA ns ls = ga at *
    generalize gN ns ls = gn at *
    generalize gL ns ls = gl at *
    clear hh
    obtain ⟨A, c, rfl⟩ := prs_form2 hn
    obtain ⟨A2, c2, rfl⟩ := prs_form2 hl
    obtain ⟨A3, c3, rfl⟩ := seq_form2 hv
    clear hn hl hv
    go_enter Tryz.func64, Tryz.ntmps64
    go_wp2_with fail
    refine (HGY.out _ (HN.out.step H0.out.below) (HL.out.step H0.out.below)).mono ?_
    rintro e w1 ⟨rfl, hb⟩
    have H1 := Lib.hid (H0.out.step hb)
    have HB1 := Lib.hid (stable_blkN _ _ _ _ _ HB0.out hb)
    have hs1 := H1.out.2.1.1
    have H2 := Lib.hid (H1.out.new2 w1.heap.size rfl [.slice none 0 0, .slice none 0 0, .slice none 0 0, .slice none 0 0] 72)
    have H8 := Lib.hid (show Held w _ [(w1.heap.size, 0, .slice none 0 0), (w1.heap.size, 1, .slice none 0 0), (w1.heap.size, 2, .slice none 0 0), (w1.heap.size, 3, .slice none 0 0)] from H2.out.only (fun ⟨a, b, c, d, _⟩ => ⟨a, b, c, d, trivial⟩) (fun ⟨a, b, c, d, _⟩ => ⟨a, b, c, d, trivial⟩))
    have bq := below_alloc w1 (.cells #[.slice none 0 0, .slice none 0 0, .slice none 0 0, .slice none 0 0] 72)
    have HK9 := Lib.hid (stable_blkN _ _ _ _ _ HB1.out bq)
    clear hb bq H1 H2 HB0 HB1 H0 HGY
    obtain ⟨x0, x1, x2, x3, _⟩ := H8.out.1
    go_wp2_with fail
    generalize w1.alloc (.cells #[.slice none 0 0, .slice none 0 0, .slice none 0 0, .slice none 0 0] 72) = W8 at *
    refine regionW (fun W => (Held _ W [(w1.heap.size, 0, .slice none 0 0), (w1.heap.size, 1, .slice none 0 0), (w1.heap.size, 2, .slice none 0 0), (w1.heap.size, 3, .slice none 0 0)]) ∧ BlkN (w.heap.size + 1) 72 4 W) (by kernel_rfl) ⟨H8.out.drew, HK9.out⟩ ?_
    refine takeW (i := 0) (v := ?_) (Stable.and (Stable.held _ _) (stable_blkN (w.heap.size + 1) 72 4)) rfl (by kernel_rfl) (by kernel_rfl) (by kernel_rfl) (fun _ _ _ h => h) ?_ ?_
    rotate_left
    · first | (refine Or.inl ⟨by rfl, fun W hS => detR_value (w' := W) ?_ (Below.refl _ _)⟩; obtain ⟨hH, q1⟩ := hS; obtain ⟨x0, x1, x2, x3, _⟩ := hH.1; go_simp; first | done | with_reducible rfl) | fail
    simp only [Act.put, List.setIfInBounds_toArray, List.set_cons_zero, List.set_cons_succ]
    refine takeW (i := 1) (v := ?_) (Stable.and (Stable.held _ _) (stable_blkN (w.heap.size + 1) 72 4)) rfl (by kernel_rfl) (by kernel_rfl) (by kernel_rfl) (fun _ _ _ h => h) ?_ ?_
    rotate_left
    · first | (refine Or.inl ⟨by rfl, fun W hS => detR_value (w' := W) ?_ (Below.refl _ _)⟩; obtain ⟨hH, q1⟩ := hS; obtain ⟨x0, x1, x2, x3, _⟩ := hH.1; go_simp; first | done | with_reducible rfl) | fail
    simp only [Act.put, List.setIfInBounds_toArray, List.set_cons_zero, List.set_cons_succ]
    refine takeW (i := 2) (v := ?_) (Stable.and (Stable.held _ _) (stable_blkN (w.heap.size + 1) 72 4)) rfl (by kernel_rfl) (by kernel_rfl) (by kernel_rfl) (fun _ _ _ h => h) ?_ ?_
    rotate_left
    · first | (refine Or.inl ⟨by rfl, fun W hS => detR_value (w' := W) ?_ (Below.refl _ _)⟩; obtain ⟨hH, q1⟩ := hS; obtain ⟨x0, x1, x2, x3, _⟩ := hH.1; go_simp; first | done | with_reducible rfl) | fail
    simp only [Act.put, List.setIfInBounds_toArray, List.set_cons_zero, List.set_cons_succ]
    refine takeW (i := 3) (v := ?_) (Stable.and (Stable.held _ _) (stable_blkN (w.heap.size + 1) 72 4)) rfl (by kernel_rfl) (by kernel_rfl) (by kernel_rfl) (fun _ _ _ h => h) ?_ ?_
    rotate_left
    · first | (refine Or.inr ⟨by rfl, ?_⟩; with_reducible rfl) | (refine Or.inl ⟨by rfl, fun W hS => detR_value (w' := W) ?_ (Below.refl _ _)⟩; obtain ⟨hH, q1⟩ := hS; obtain ⟨x0, x1, x2, x3, _⟩ := hH.1; go_simp; first | done | with_reducible rfl) | fail
    simp only [Act.put, List.setIfInBounds_toArray, List.set_cons_zero, List.set_cons_succ]
    refine takeW (i := 4) (v := ?_) (Stable.and (Stable.held _ _) (stable_blkN (w.heap.size + 1) 72 4)) rfl (by kernel_rfl) (by kernel_rfl) (by kernel_rfl) (fun _ _ _ h => h) ?_ ?_
    rotate_left
    · first | (refine Or.inr ⟨by rfl, ?_⟩; with_reducible rfl) | (refine Or.inl ⟨by rfl, fun W hS => detR_value (w' := W) ?_ (Below.refl _ _)⟩; obtain ⟨hH, q1⟩ := hS; obtain ⟨x0, x1, x2, x3, _⟩ := hH.1; go_simp; first | done | with_reducible rfl) | fail
    simp only [Act.put, List.setIfInBounds_toArray, List.set_cons_zero, List.set_cons_succ]
    refine takeW (i := 5) (v := ?_) (Stable.and (Stable.held _ _) (stable_blkN (w.heap.size + 1) 72 4)) rfl (by kernel_rfl) (by kernel_rfl) (by kernel_rfl) (fun _ _ _ h => h) ?_ ?_
    rotate_left
    · first | (refine Or.inr ⟨by rfl, ?_⟩; with_reducible rfl) | (refine Or.inl ⟨by rfl, fun W hS => detR_value (w' := W) ?_ (Below.refl _ _)⟩; obtain ⟨hH, q1⟩ := hS; obtain ⟨x0, x1, x2, x3, _⟩ := hH.1; go_simp; first | done | with_reducible rfl) | fail
    simp only [Act.put, List.setIfInBounds_toArray, List.set_cons_zero, List.set_cons_succ]
    refine takeW (i := 6) (v := ?_) (Stable.and (Stable.held _ _) (stable_blkN (w.heap.size + 1) 72 4)) rfl (by kernel_rfl) (by kernel_rfl) (by kernel_rfl) (fun _ _ _ h => h) ?_ ?_
    rotate_left
    · first | (refine Or.inr ⟨by rfl, ?_⟩; with_reducible rfl) | (refine Or.inl ⟨by rfl, fun W hS => detR_value (w' := W) ?_ (Below.refl _ _)⟩; obtain ⟨hH, q1⟩ := hS; obtain ⟨x0, x1, x2, x3, _⟩ := hH.1; go_simp; first | done | with_reducible rfl) | fail
    simp only [Act.put, List.setIfInBounds_toArray, List.set_cons_zero, List.set_cons_succ]
    refine takeW (i := 7) (v := ?_) (Stable.and (Stable.held _ _) (stable_blkN (w.heap.size + 1) 72 4)) rfl (by kernel_rfl) (by kernel_rfl) (by kernel_rfl) (fun _ _ _ h => h) ?_ ?_
    rotate_left
    · first | (refine Or.inr ⟨by rfl, ?_⟩; with_reducible rfl) | (refine Or.inl ⟨by rfl, fun W hS => detR_value (w' := W) ?_ (Below.refl _ _)⟩; obtain ⟨hH, q1⟩ := hS; obtain ⟨x0, x1, x2, x3, _⟩ := hH.1; go_simp; first | done | with_reducible rfl) | fail
    simp only [Act.put, List.setIfInBounds_toArray, List.set_cons_zero, List.set_cons_succ]
    refine takeW (i := 8) (v := ?_) (Stable.and (Stable.held _ _) (stable_blkN (w.heap.size + 1) 72 4)) rfl (by kernel_rfl) (by kernel_rfl) (by kernel_rfl) (fun _ _ _ h => h) ?_ ?_
    rotate_left
    · first | (refine Or.inr ⟨by rfl, ?_⟩; with_reducible rfl) | (refine Or.inl ⟨by rfl, fun W hS => detR_value (w' := W) ?_ (Below.refl _ _)⟩; obtain ⟨hH, q1⟩ := hS; obtain ⟨x0, x1, x2, x3, _⟩ := hH.1; go_simp; first | done | with_reducible rfl) | fail
    simp only [Act.put, List.setIfInBounds_toArray, List.set_cons_zero, List.set_cons_succ]
    refine takeW (i := 9) (v := ?_) (Stable.and (Stable.held _ _) (stable_blkN (w.heap.size + 1) 72 4)) rfl (by kernel_rfl) (by kernel_rfl) (by kernel_rfl) (fun _ _ _ h => h) ?_ ?_
    rotate_left
    · first | (refine Or.inl ⟨by rfl, fun W hS => detR_value (w' := W) ?_ (Below.refl _ _)⟩; obtain ⟨hH, q1⟩ := hS; obtain ⟨x0, x1, x2, x3, _⟩ := hH.1; go_simp; first | done | with_reducible rfl) | fail
    simp only [Act.put, List.setIfInBounds_toArray, List.set_cons_zero, List.set_cons_succ]
    refine takeW (i := 10) (v := ?_) (Stable.and (Stable.held _ _) (stable_blkN (w.heap.size + 1) 72 4)) rfl (by kernel_rfl) (by kernel_rfl) (by kernel_rfl) (fun _ _ _ h => h) ?_ ?_
    rotate_left
    · first | (refine Or.inl ⟨by rfl, fun W hS => detR_value (w' := W) ?_ (Below.refl _ _)⟩; obtain ⟨hH, q1⟩ := hS; obtain ⟨x0, x1, x2, x3, _⟩ := hH.1; go_simp; first | done | with_reducible rfl) | fail
    simp only [Act.put, List.setIfInBounds_toArray, List.set_cons_zero, List.set_cons_succ]
    refine takeW (i := 11) (v := ?_) (Stable.and (Stable.held _ _) (stable_blkN (w.heap.size + 1) 72 4)) rfl (by kernel_rfl) (by kernel_rfl) (by kernel_rfl) (fun _ _ _ h => h) ?_ ?_
    rotate_left
    · first | (refine Or.inr ⟨by rfl, ?_⟩; with_reducible rfl) | (refine Or.inl ⟨by rfl, fun W hS => detR_value (w' := W) ?_ (Below.refl _ _)⟩; obtain ⟨hH, q1⟩ := hS; obtain ⟨x0, x1, x2, x3, _⟩ := hH.1; go_simp; first | done | with_reducible rfl) | fail
    simp only [Act.put, List.setIfInBounds_toArray, List.set_cons_zero, List.set_cons_succ]
    refine takeW (i := 12) (v := ?_) (Stable.and (Stable.held _ _) (stable_blkN (w.heap.size + 1) 72 4)) rfl (by kernel_rfl) (by kernel_rfl) (by kernel_rfl) (fun _ _ _ h => h) ?_ ?_
    rotate_left
    · first | (refine Or.inr ⟨by rfl, ?_⟩; with_reducible rfl) | (refine Or.inl ⟨by rfl, fun W hS => ?_⟩; obtain ⟨hH, q1⟩ := hS; refine detR_call (w' := W) (f := ?_) (args := ?_) ?_ ?_; rotate_left 2; (go_simp; (refine ⟨?_, ?_⟩ <;> with_reducible rfl)); (first | (with_reducible refine (HT.out _ hH.below).mono ?_) | fail); (first | (rintro e wn ⟨rfl, hb⟩; refine ⟨?_, hb⟩; with_reducible rfl) | (rintro e wn ⟨rfl, rfl⟩; refine ⟨?_, Below.refl _ _⟩; with_reducible rfl) | fail)) | fail
    simp only [Act.put, List.setIfInBounds_toArray, List.set_cons_zero, List.set_cons_succ]
    refine takeW (i := 13) (v := ?_) (Stable.and (Stable.held _ _) (stable_blkN (w.heap.size + 1) 72 4)) rfl (by kernel_rfl) (by kernel_rfl) (by kernel_rfl) (fun _ _ _ h => h) ?_ ?_
    rotate_left
    · first | (refine Or.inl ⟨by rfl, fun W hS => detR_value (w' := W) ?_ (Below.refl _ _)⟩; obtain ⟨hH, q1⟩ := hS; obtain ⟨x0, x1, x2, x3, _⟩ := hH.1; go_simp; first | done | with_reducible rfl) | fail
    simp only [Act.put, List.setIfInBounds_toArray, List.set_cons_zero, List.set_cons_succ]
    refine storeK (i := 14) (b := w.heap.size + 1) #[.slice none 0 0, .slice none 0 0, .slice none 0 0, .slice none 0 0] (Stable.and (Stable.held _ _) (stable_blkN (w.heap.size + 1) 72 4)) (fun W hS => by obtain ⟨hH, q1⟩ := hS; exact q1) (fun W hS => by obtain ⟨hH, q1⟩ := hS; exact ⟨hH.setRowAt (by simp; omega) (Nat.le_succ _) _, q1.setRow rfl⟩) rfl (by kernel_rfl) (by rfl) rfl (by rfl) (by rfl) rfl (by kernel_rfl) (by simp [Value.oneCell']) ?_
    simp only [Act.put, List.setIfInBounds_toArray, List.set_cons_zero, List.set_cons_succ]
    refine takeW (i := 15) (v := ?_) (Stable.and (Stable.and (Stable.held _ _) (stable_blkN (w.heap.size + 1) 72 4)) (stable_blkIs _ _ _)) rfl (by kernel_rfl) (by kernel_rfl) (by kernel_rfl) (fun _ _ _ h => h) ?_ ?_
    rotate_left
    · first | (refine Or.inl ⟨by rfl, fun W hS => detR_value (w' := W) ?_ (Below.refl _ _)⟩; obtain ⟨⟨hH, q1⟩, hs⟩ := hS; obtain ⟨x0, x1, x2, x3, _⟩ := hH.1; go_simp; first | done | with_reducible rfl) | fail
    simp only [Act.put, List.setIfInBounds_toArray, List.set_cons_zero, List.set_cons_succ]
    refine doneW (by kernel_rfl) fun wH7 HG => ?_
    obtain ⟨⟨hH, q1⟩, hs⟩ := HG
    have H7 := Lib.hid hH; clear hH
    have MH7_q1 := Lib.hid q1; clear q1
    have MH7_s := Lib.hid hs; clear hs
    try clear x0 x1 x2 x3
    have r0 := (cell_of_cells (k := 0) MH7_s.out).trans (rfl : _ = some (Value.slice none 0 0))
    have r1 := (cell_of_cells (k := 1) MH7_s.out).trans (rfl : _ = some (Value.slice none 0 0))
    have r2 := (cell_of_cells (k := 2) MH7_s.out).trans (rfl : _ = some (Value.slice none 0 0))
    have r3 := (cell_of_cells (k := 3) MH7_s.out).trans (rfl : _ = some (Value.slice none 0 0))
    go_wp2_with fail
    refine bodyPost_ret (v := .tuple #[.agg #[.slice none 0 0, .slice none 0 0, .slice none 0 0, .slice none 0 0], .bool false]) (by simp [results, Tryz.results55, go_sem, r0, r1, r2, r3]) rfl ⟨_, _, _, _, by rw [HRES.out], ?_, ?_, ?_, ?_, H7.out.below⟩
    · rw [HGN.out]; exact prs_nil _
    · rw [HGL2.out]; exact prs_nil _
    · rw [HWF.out]; exact Faces.nil _ _
    · rw [HGA.out]; exact Ints.nil _ _

set_option maxRecDepth 100000 in
theorem implHistOk (ns ls : List Nd) (xs : List Int) (vn vl v : Value) (w : World) (hn : Prs w vn ns) (hl : Prs w vl ls) (hv : Seq w v xs) :
    Calls Tryz.prog 27 #[.agg #[vn, vl], v] w (BoolIs (listB ns ls 0 3000 xs) w) := by
  have HG := Lib.hid (fun w h1 h2 h3 => implHistG ns ls xs vn vl v w h1 h2 h3)
  unfold GlassL at HG
  have HN := Lib.hid hn
  have HL := Lib.hid hl
  have HV := Lib.hid hv
  have H0 := Lib.hid (held_pair w vn vl 32)
  obtain ⟨A, c, rfl⟩ := prs_form2 hn
  obtain ⟨A2, c2, rfl⟩ := prs_form2 hl
  obtain ⟨A3, c3, rfl⟩ := seq_form2 hv
  clear hn hl hv
  generalize listB ns ls 0 3000 xs = res at *
  go_enter Tryz.func27, Tryz.ntmps27
  go_wp2_with fail
  refine (HG.out _ (HN.out.step H0.out.below) (HL.out.step H0.out.below) (HV.out.step H0.out.below)).mono ?_
  rintro e w1 ⟨v1, v2, v3, v4, rfl, g1, g2, g3, g4, hb⟩
  have H1 := Lib.hid (H0.out.step hb); clear hb
  obtain ⟨A5, c5, rfl⟩ := prs_form2 g1
  obtain ⟨A6, c6, rfl⟩ := prs_form2 g2
  obtain ⟨A7, c7, rfl⟩ := faces_form g3
  obtain ⟨A8, c8, rfl⟩ := ints_form g4
  clear g1 g2 g3 g4
  go_wp2_with fail
  go_ret
  exact ⟨rfl, H1.out.below.trans ((below_alloc _ _).mono H1.out.below.size)⟩


set_option maxRecDepth 100000 in
set_option maxHeartbeats 4000000 in
theorem implProperG (ns ls : List Nd) (xs : List Int) (vn vl v : Value) (w : World) (hn : Prs w vn ns) (hl : Prs w vl ls) (hv : Seq w v xs) :
    Calls Tryz.prog 55 #[.agg #[vn, vl], v] w (GlassL (properB ns ls xs) ns ls w) := by
  have HN := Lib.hid hn
  have HL := Lib.hid hl
  have HV := Lib.hid hv
  have H0 := Lib.hid (held_glass w vn vl 32 72)
  have HB0 := Lib.hid (show BlkN (w.heap.size + 1) 72 4 ((w.alloc (.cells #[vn, vl] 32)).alloc (.cells #[.slice none 0 0, .slice none 0 0, .slice none 0 0, .slice none 0 0] 72)) from ⟨_, by
    have := heap_alloc_new (w.alloc (.cells #[vn, vl] 32)) (.cells #[.slice none 0 0, .slice none 0 0, .slice none 0 0, .slice none 0 0] 72)
    simpa using this, rfl⟩)
  have HT := Lib.hid (fun (A1 A2 A3 A4 : Option Addr) (n1 c1 n2 c2 n3 c3 n4 c4 : Nat) W hb => implIsColors A1 A2 A3 A4 n1 c1 n2 c2 n3 c3 n4 c4 xs v W (hv.step hb))
  unfold BoolIs at HT
  by_cases hh : wholeB ns ls = true
  · have HGY := Lib.hid (fun w h1 h2 => implGlassYes ns ls vn vl w h1 h2 hh)
    unfold GlassYes at HGY
    have HGN := Lib.hid (show gN ns ls = ns from if_pos hh)
    have HGL2 := Lib.hid (show gL ns ls = ls from if_pos hh)
    have HGA := Lib.hid (show gA ns ls = atW ns ls from if_pos hh)
    have HWF := Lib.hid (show wF ns ls = facesL ns ls from if_pos hh)
    unfold GlassL
    have hlen2 : (atW ns ls).length = 2 * ls.length := atW_len ns ls
    have h20 : ls.length ≤ 20 := (whole_win hh).2.2.1
    have HCL := Lib.hid (fun (hlist : listB ns ls 0 5 xs = true) v1 v2 v3 v4 B B2 W h1 h2 h3 h4 hb => implClash v1 v2 v3 v4 v (facesL ns ls) (atW ns ls) xs ns ls B B2 W h1 h2 h3 h4 (hv.step hb) hlen2 h20 (fun d hd => by
      have e : gA ns ls = atW ns ls := if_pos hh
      rw [← e] at hd ⊢
      obtain ⟨q, h, hlt⟩ := g_face hd
      exact ⟨q, h, by rw [(listB_parts hlist).2.1]; exact hlt⟩))
    unfold IntIs at HCL
    have HCW := Lib.hid (fun (hlist : listB ns ls 0 5 xs = true) => show clashW ns ls xs = firstI (clashP (atW ns ls) xs) ls.length from by rw [clashW, if_pos hlist, HGA.out, HGL2.out])
    have HLD := Lib.hid (show listB ns ls 0 5 xs = (decide (xs.length = (facesL ns ls).length) && inR xs 0 5) from by unfold listB; rw [hh, HWF.out]; rfl)
    have HRES := Lib.hid (show properB ns ls xs = (listB ns ls 0 5 xs && decide (clashW ns ls xs < 0)) from rfl)
    generalize properB ns ls xs = res at *
    generalize clashW ns ls xs = cw at *
    generalize listB ns ls 0 5 xs = lb at *
    generalize firstI (clashP (atW ns ls) xs) ls.length = fr at *
    clear hlen2 h20
    generalize wF ns ls = wf at *
    generalize gA ns ls = ga at *
    generalize gN ns ls = gn at *
    generalize gL ns ls = gl at *
    generalize facesL ns ls = rs at *
    generalize atW ns ls = ds at *
    clear hh
    obtain ⟨A, c, rfl⟩ := prs_form2 hn
    obtain ⟨A2, c2, rfl⟩ := prs_form2 hl
    obtain ⟨A3, c3, rfl⟩ := seq_form2 hv
    clear hn hl hv
    go_enter Tryz.func55, Tryz.ntmps55
    go_wp2_with fail
    refine (HGY.out _ (HN.out.step H0.out.below) (HL.out.step H0.out.below)).mono ?_
    rintro e w1 ⟨vf, va, rfl, g3, g4, hb⟩
    have H1 := Lib.hid (H0.out.step hb)
    have HB1 := Lib.hid (stable_blkN _ _ _ _ _ HB0.out hb)
    have hs1 := H1.out.2.1.1
    have g3 := g3.mono (b' := w.heap.size + 1 + 1) (by simp)
    have g4 := g4.mono (b' := w.heap.size + 1 + 1) (by simp)
    obtain ⟨A7, c7, rfl⟩ := faces_form g3
    obtain ⟨A8, c8, rfl⟩ := ints_form g4
    have FI1 := Lib.hid (FI.mk g3 g4)
    have H2 := Lib.hid (H1.out.new2 w1.heap.size rfl [.slice A ns.length c, .slice A2 ls.length c2, .slice A7 rs.length c7, .slice A8 ds.length c8] 72)
    have H8 := Lib.hid (show Held w _ [(w1.heap.size, 0, .slice A ns.length c), (w1.heap.size, 1, .slice A2 ls.length c2), (w1.heap.size, 2, .slice A7 rs.length c7), (w1.heap.size, 3, .slice A8 ds.length c8)] from H2.out.only (fun ⟨a, b, c, d, _⟩ => ⟨a, b, c, d, trivial⟩) (fun ⟨a, b, c, d, _⟩ => ⟨a, b, c, d, trivial⟩))
    have bq := below_alloc w1 (.cells #[.slice A ns.length c, .slice A2 ls.length c2, .slice A7 rs.length c7, .slice A8 ds.length c8] 72)
    have HK9 := Lib.hid (stable_blkN _ _ _ _ _ HB1.out bq)
    have FI9 := Lib.hid (FI1.out.step bq)
    clear hb g3 g4 bq H1 H2 HB0 HB1 FI1 H0 HGY
    obtain ⟨x0, x1, x2, x3, _⟩ := H8.out.1
    go_wp2_with fail
    generalize w1.alloc (.cells #[.slice A ns.length c, .slice A2 ls.length c2, .slice A7 rs.length c7, .slice A8 ds.length c8] 72) = W8 at *
    replace HT := Lib.hid (fun (A1 A2 A3 A4 : Option Addr) (n1 c1 n2 c2 c3 n4 c4 : Nat) W hb => HT.out A1 A2 A3 A4 n1 c1 n2 c2 rs.length c3 n4 c4 W hb)
    generalize (decide (xs.length = rs.length) && inR xs 0 5) = lb2 at *
    cases lb
    · replace HRES := Lib.hid (show res = false from by rw [HRES.out]; rfl)
      obtain rfl := HLD.out
      have HCL : Hid True := Lib.hid True.intro
      refine regionW (fun W => ((Held _ W [(w1.heap.size, 0, .slice A ns.length c), (w1.heap.size, 1, .slice A2 ls.length c2), (w1.heap.size, 2, .slice A7 rs.length c7), (w1.heap.size, 3, .slice A8 ds.length c8)]) ∧ BlkN (w.heap.size + 1) 72 4 W) ∧ FI (w.heap.size + 1 + 1) (.slice A7 rs.length c7) rs (.slice A8 ds.length c8) ds W) (by kernel_rfl) ⟨⟨H8.out.drew, HK9.out⟩, (FI9.out).step ((Below.refl _ _).drew)⟩ ?_
      refine takeW (i := 0) (v := ?_) (Stable.and (Stable.and (Stable.held _ _) (stable_blkN (w.heap.size + 1) 72 4)) (stable_fi (w.heap.size + 1 + 1) (.slice A7 rs.length c7) rs (.slice A8 ds.length c8) ds)) rfl (by kernel_rfl) (by kernel_rfl) (by kernel_rfl) (fun _ _ _ h => h) ?_ ?_
      rotate_left
      · first | (refine Or.inl ⟨by rfl, fun W hS => detR_value (w' := W) ?_ (Below.refl _ _)⟩; obtain ⟨⟨hH, q1⟩, q2⟩ := hS; obtain ⟨x0, x1, x2, x3, _⟩ := hH.1; go_simp; first | done | with_reducible rfl) | fail
      simp only [Act.put, List.setIfInBounds_toArray, List.set_cons_zero, List.set_cons_succ]
      refine takeW (i := 1) (v := ?_) (Stable.and (Stable.and (Stable.held _ _) (stable_blkN (w.heap.size + 1) 72 4)) (stable_fi (w.heap.size + 1 + 1) (.slice A7 rs.length c7) rs (.slice A8 ds.length c8) ds)) rfl (by kernel_rfl) (by kernel_rfl) (by kernel_rfl) (fun _ _ _ h => h) ?_ ?_
      rotate_left
      · first | (refine Or.inl ⟨by rfl, fun W hS => detR_value (w' := W) ?_ (Below.refl _ _)⟩; obtain ⟨⟨hH, q1⟩, q2⟩ := hS; obtain ⟨x0, x1, x2, x3, _⟩ := hH.1; go_simp; first | done | with_reducible rfl) | fail
      simp only [Act.put, List.setIfInBounds_toArray, List.set_cons_zero, List.set_cons_succ]
      refine takeW (i := 2) (v := ?_) (Stable.and (Stable.and (Stable.held _ _) (stable_blkN (w.heap.size + 1) 72 4)) (stable_fi (w.heap.size + 1 + 1) (.slice A7 rs.length c7) rs (.slice A8 ds.length c8) ds)) rfl (by kernel_rfl) (by kernel_rfl) (by kernel_rfl) (fun _ _ _ h => h) ?_ ?_
      rotate_left
      · first | (refine Or.inl ⟨by rfl, fun W hS => detR_value (w' := W) ?_ (Below.refl _ _)⟩; obtain ⟨⟨hH, q1⟩, q2⟩ := hS; obtain ⟨x0, x1, x2, x3, _⟩ := hH.1; go_simp; first | done | with_reducible rfl) | fail
      simp only [Act.put, List.setIfInBounds_toArray, List.set_cons_zero, List.set_cons_succ]
      refine takeW (i := 3) (v := ?_) (Stable.and (Stable.and (Stable.held _ _) (stable_blkN (w.heap.size + 1) 72 4)) (stable_fi (w.heap.size + 1 + 1) (.slice A7 rs.length c7) rs (.slice A8 ds.length c8) ds)) rfl (by kernel_rfl) (by kernel_rfl) (by kernel_rfl) (fun _ _ _ h => h) ?_ ?_
      rotate_left
      · first | (refine Or.inr ⟨by rfl, ?_⟩; with_reducible rfl) | (refine Or.inl ⟨by rfl, fun W hS => detR_value (w' := W) ?_ (Below.refl _ _)⟩; obtain ⟨⟨hH, q1⟩, q2⟩ := hS; obtain ⟨x0, x1, x2, x3, _⟩ := hH.1; go_simp; first | done | with_reducible rfl) | fail
      simp only [Act.put, List.setIfInBounds_toArray, List.set_cons_zero, List.set_cons_succ]
      refine takeW (i := 4) (v := ?_) (Stable.and (Stable.and (Stable.held _ _) (stable_blkN (w.heap.size + 1) 72 4)) (stable_fi (w.heap.size + 1 + 1) (.slice A7 rs.length c7) rs (.slice A8 ds.length c8) ds)) rfl (by kernel_rfl) (by kernel_rfl) (by kernel_rfl) (fun _ _ _ h => h) ?_ ?_
      rotate_left
      · first | (refine Or.inr ⟨by rfl, ?_⟩; with_reducible rfl) | (refine Or.inl ⟨by rfl, fun W hS => detR_value (w' := W) ?_ (Below.refl _ _)⟩; obtain ⟨⟨hH, q1⟩, q2⟩ := hS; obtain ⟨x0, x1, x2, x3, _⟩ := hH.1; go_simp; first | done | with_reducible rfl) | fail
      simp only [Act.put, List.setIfInBounds_toArray, List.set_cons_zero, List.set_cons_succ]
      refine takeW (i := 5) (v := ?_) (Stable.and (Stable.and (Stable.held _ _) (stable_blkN (w.heap.size + 1) 72 4)) (stable_fi (w.heap.size + 1 + 1) (.slice A7 rs.length c7) rs (.slice A8 ds.length c8) ds)) rfl (by kernel_rfl) (by kernel_rfl) (by kernel_rfl) (fun _ _ _ h => h) ?_ ?_
      rotate_left
      · first | (refine Or.inr ⟨by rfl, ?_⟩; with_reducible rfl) | (refine Or.inl ⟨by rfl, fun W hS => ?_⟩; obtain ⟨⟨hH, q1⟩, q2⟩ := hS; refine detR_call (w' := W) (f := ?_) (args := ?_) ?_ ?_; rotate_left 2; (go_simp; (refine ⟨?_, ?_⟩ <;> with_reducible rfl)); (first | (with_reducible refine (HT.out _ _ _ _ _ _ _ _ _ _ _ _ hH.below).mono ?_) | fail); (first | (rintro e wn ⟨rfl, hb⟩; refine ⟨?_, hb⟩; with_reducible rfl) | (rintro e wn ⟨rfl, rfl⟩; refine ⟨?_, Below.refl _ _⟩; with_reducible rfl) | fail)) | fail
      simp only [Act.put, List.setIfInBounds_toArray, List.set_cons_zero, List.set_cons_succ]
      refine takeW (i := 6) (v := ?_) (Stable.and (Stable.and (Stable.held _ _) (stable_blkN (w.heap.size + 1) 72 4)) (stable_fi (w.heap.size + 1 + 1) (.slice A7 rs.length c7) rs (.slice A8 ds.length c8) ds)) rfl (by kernel_rfl) (by kernel_rfl) (by kernel_rfl) (fun _ _ _ h => h) ?_ ?_
      rotate_left
      · first | (refine Or.inl ⟨by rfl, fun W hS => detR_value (w' := W) ?_ (Below.refl _ _)⟩; obtain ⟨⟨hH, q1⟩, q2⟩ := hS; obtain ⟨x0, x1, x2, x3, _⟩ := hH.1; go_simp; first | done | with_reducible rfl) | fail
      simp only [Act.put, List.setIfInBounds_toArray, List.set_cons_zero, List.set_cons_succ]
      refine takeW (i := 7) (v := ?_) (Stable.and (Stable.and (Stable.held _ _) (stable_blkN (w.heap.size + 1) 72 4)) (stable_fi (w.heap.size + 1 + 1) (.slice A7 rs.length c7) rs (.slice A8 ds.length c8) ds)) rfl (by kernel_rfl) (by kernel_rfl) (by kernel_rfl) (fun _ _ _ h => h) ?_ ?_
      rotate_left
      · first | (refine Or.inl ⟨by rfl, fun W hS => detR_value (w' := W) ?_ (Below.refl _ _)⟩; obtain ⟨⟨hH, q1⟩, q2⟩ := hS; obtain ⟨x0, x1, x2, x3, _⟩ := hH.1; go_simp; first | done | with_reducible rfl) | fail
      simp only [Act.put, List.setIfInBounds_toArray, List.set_cons_zero, List.set_cons_succ]
      refine takeW (i := 8) (v := ?_) (Stable.and (Stable.and (Stable.held _ _) (stable_blkN (w.heap.size + 1) 72 4)) (stable_fi (w.heap.size + 1 + 1) (.slice A7 rs.length c7) rs (.slice A8 ds.length c8) ds)) rfl (by kernel_rfl) (by kernel_rfl) (by kernel_rfl) (fun _ _ _ h => h) ?_ ?_
      rotate_left
      · first | (refine Or.inr ⟨by rfl, ?_⟩; with_reducible rfl) | (refine Or.inl ⟨by rfl, fun W hS => detR_value (w' := W) ?_ (Below.refl _ _)⟩; obtain ⟨⟨hH, q1⟩, q2⟩ := hS; obtain ⟨x0, x1, x2, x3, _⟩ := hH.1; go_simp; first | done | with_reducible rfl) | fail
      simp only [Act.put, List.setIfInBounds_toArray, List.set_cons_zero, List.set_cons_succ]
      refine takeW (i := 9) (v := ?_) (Stable.and (Stable.and (Stable.held _ _) (stable_blkN (w.heap.size + 1) 72 4)) (stable_fi (w.heap.size + 1 + 1) (.slice A7 rs.length c7) rs (.slice A8 ds.length c8) ds)) rfl (by kernel_rfl) (by kernel_rfl) (by kernel_rfl) (fun _ _ _ h => h) ?_ ?_
      rotate_left
      · first | (refine Or.inr ⟨by rfl, ?_⟩; with_reducible rfl) | (refine Or.inl ⟨by rfl, fun W hS => detR_value (w' := W) ?_ (Below.refl _ _)⟩; obtain ⟨⟨hH, q1⟩, q2⟩ := hS; obtain ⟨x0, x1, x2, x3, _⟩ := hH.1; go_simp; first | done | with_reducible rfl) | fail
      simp only [Act.put, List.setIfInBounds_toArray, List.set_cons_zero, List.set_cons_succ]
      refine takeW (i := 10) (v := ?_) (Stable.and (Stable.and (Stable.held _ _) (stable_blkN (w.heap.size + 1) 72 4)) (stable_fi (w.heap.size + 1 + 1) (.slice A7 rs.length c7) rs (.slice A8 ds.length c8) ds)) rfl (by kernel_rfl) (by kernel_rfl) (by kernel_rfl) (fun _ _ _ h => h) ?_ ?_
      rotate_left
      · first | (refine Or.inr ⟨by rfl, ?_⟩; with_reducible rfl) | (refine Or.inl ⟨by rfl, fun W hS => ?_⟩; obtain ⟨⟨hH, q1⟩, q2⟩ := hS; refine detR_call (w' := W) (f := ?_) (args := ?_) ?_ ?_; rotate_left 2; (go_simp; (refine ⟨?_, ?_⟩ <;> with_reducible rfl)); (first | (with_reducible refine (HCL.out _ _ _ _ _ _ _ (HN.out.step hH.below) (HL.out.step hH.below) q2.f q2.a hH.below).mono ?_) | fail); (first | (rintro e wn ⟨rfl, hb⟩; refine ⟨?_, hb⟩; with_reducible rfl) | (rintro e wn ⟨rfl, rfl⟩; refine ⟨?_, Below.refl _ _⟩; with_reducible rfl) | fail)) | fail
      simp only [Act.put, List.setIfInBounds_toArray, List.set_cons_zero, List.set_cons_succ]
      refine takeW (i := 11) (v := ?_) (Stable.and (Stable.and (Stable.held _ _) (stable_blkN (w.heap.size + 1) 72 4)) (stable_fi (w.heap.size + 1 + 1) (.slice A7 rs.length c7) rs (.slice A8 ds.length c8) ds)) rfl (by kernel_rfl) (by kernel_rfl) (by kernel_rfl) (fun _ _ _ h => h) ?_ ?_
      rotate_left
      · first | (refine Or.inr ⟨by rfl, ?_⟩; with_reducible rfl) | (refine Or.inl ⟨by rfl, fun W hS => detR_value (w' := W) ?_ (Below.refl _ _)⟩; obtain ⟨⟨hH, q1⟩, q2⟩ := hS; obtain ⟨x0, x1, x2, x3, _⟩ := hH.1; go_simp; first | done | with_reducible rfl) | fail
      simp only [Act.put, List.setIfInBounds_toArray, List.set_cons_zero, List.set_cons_succ]
      refine takeW (i := 12) (v := ?_) (Stable.and (Stable.and (Stable.held _ _) (stable_blkN (w.heap.size + 1) 72 4)) (stable_fi (w.heap.size + 1 + 1) (.slice A7 rs.length c7) rs (.slice A8 ds.length c8) ds)) rfl (by kernel_rfl) (by kernel_rfl) (by kernel_rfl) (fun _ _ _ h => h) ?_ ?_
      rotate_left
      · first | (refine Or.inl ⟨by rfl, fun W hS => detR_value (w' := W) ?_ (Below.refl _ _)⟩; obtain ⟨⟨hH, q1⟩, q2⟩ := hS; obtain ⟨x0, x1, x2, x3, _⟩ := hH.1; go_simp; first | done | with_reducible rfl) | fail
      simp only [Act.put, List.setIfInBounds_toArray, List.set_cons_zero, List.set_cons_succ]
      refine storeK (i := 13) (b := w.heap.size + 1) #[.slice A ns.length c, .slice A2 ls.length c2, .slice A7 rs.length c7, .slice A8 ds.length c8] (Stable.and (Stable.and (Stable.held _ _) (stable_blkN (w.heap.size + 1) 72 4)) (stable_fi (w.heap.size + 1 + 1) (.slice A7 rs.length c7) rs (.slice A8 ds.length c8) ds)) (fun W hS => by obtain ⟨⟨hH, q1⟩, q2⟩ := hS; exact q1) (fun W hS => by obtain ⟨⟨hH, q1⟩, q2⟩ := hS; exact ⟨⟨hH.setRowAt (by simp; omega) (Nat.le_succ _) _, q1.setRow rfl⟩, q2.setRow (Nat.lt_succ_self _) _⟩) rfl (by kernel_rfl) (by rfl) rfl (by rfl) (by rfl) rfl (by kernel_rfl) (by simp [Value.oneCell']) ?_
      simp only [Act.put, List.setIfInBounds_toArray, List.set_cons_zero, List.set_cons_succ]
      refine takeW (i := 14) (v := ?_) (Stable.and (Stable.and (Stable.and (Stable.held _ _) (stable_blkN (w.heap.size + 1) 72 4)) (stable_fi (w.heap.size + 1 + 1) (.slice A7 rs.length c7) rs (.slice A8 ds.length c8) ds)) (stable_blkIs _ _ _)) rfl (by kernel_rfl) (by kernel_rfl) (by kernel_rfl) (fun _ _ _ h => h) ?_ ?_
      rotate_left
      · first | (refine Or.inl ⟨by rfl, fun W hS => detR_value (w' := W) ?_ (Below.refl _ _)⟩; obtain ⟨⟨⟨hH, q1⟩, q2⟩, hs⟩ := hS; obtain ⟨x0, x1, x2, x3, _⟩ := hH.1; go_simp; first | done | with_reducible rfl) | fail
      simp only [Act.put, List.setIfInBounds_toArray, List.set_cons_zero, List.set_cons_succ]
      refine doneW (by kernel_rfl) fun wH7 HG => ?_
      obtain ⟨⟨⟨hH, q1⟩, q2⟩, hs⟩ := HG
      have H7 := Lib.hid hH; clear hH
      have MH7_q1 := Lib.hid q1; clear q1
      have MH7_q2 := Lib.hid q2; clear q2
      have MH7_s := Lib.hid hs; clear hs
      try clear x0 x1 x2 x3
      have r0 := (cell_of_cells (k := 0) MH7_s.out).trans (rfl : _ = some (Value.slice A ns.length c))
      have r1 := (cell_of_cells (k := 1) MH7_s.out).trans (rfl : _ = some (Value.slice A2 ls.length c2))
      have r2 := (cell_of_cells (k := 2) MH7_s.out).trans (rfl : _ = some (Value.slice A7 rs.length c7))
      have r3 := (cell_of_cells (k := 3) MH7_s.out).trans (rfl : _ = some (Value.slice A8 ds.length c8))
      go_wp2_with fail
      refine bodyPost_ret (v := .tuple #[.agg #[.slice A ns.length c, .slice A2 ls.length c2, .slice A7 rs.length c7, .slice A8 ds.length c8], .bool false]) (by simp [results, Tryz.results55, go_sem, r0, r1, r2, r3]) rfl ⟨_, _, _, _, by rw [HRES.out], ?_, ?_, ?_, ?_, H7.out.below⟩
      · rw [HGN.out]; exact HN.out.step H7.out.below
      · rw [HGL2.out]; exact HL.out.step H7.out.below
      · rw [HWF.out]; exact MH7_q2.out.f.mono (by omega)
      · rw [HGA.out]; exact MH7_q2.out.a.mono (by omega)
    · obtain rfl := HLD.out
      replace HCL := Lib.hid (HCL.out rfl)
      obtain ⟨q, hq⟩ : ∃ q, decide (fr < 0) = q := ⟨_, rfl⟩
      replace HRES := Lib.hid (show res = q from by rw [HRES.out, HCW.out rfl, hq]; rfl)
      cases q
      · refine regionW (fun W => ((Held _ W [(w1.heap.size, 0, .slice A ns.length c), (w1.heap.size, 1, .slice A2 ls.length c2), (w1.heap.size, 2, .slice A7 rs.length c7), (w1.heap.size, 3, .slice A8 ds.length c8)]) ∧ BlkN (w.heap.size + 1) 72 4 W) ∧ FI (w.heap.size + 1 + 1) (.slice A7 rs.length c7) rs (.slice A8 ds.length c8) ds W) (by kernel_rfl) ⟨⟨H8.out.drew, HK9.out⟩, (FI9.out).step ((Below.refl _ _).drew)⟩ ?_
        refine takeW (i := 0) (v := ?_) (Stable.and (Stable.and (Stable.held _ _) (stable_blkN (w.heap.size + 1) 72 4)) (stable_fi (w.heap.size + 1 + 1) (.slice A7 rs.length c7) rs (.slice A8 ds.length c8) ds)) rfl (by kernel_rfl) (by kernel_rfl) (by kernel_rfl) (fun _ _ _ h => h) ?_ ?_
        rotate_left
        · first | (refine Or.inl ⟨by rfl, fun W hS => detR_value (w' := W) ?_ (Below.refl _ _)⟩; obtain ⟨⟨hH, q1⟩, q2⟩ := hS; obtain ⟨x0, x1, x2, x3, _⟩ := hH.1; go_simp; first | done | with_reducible rfl) | fail
        simp only [Act.put, List.setIfInBounds_toArray, List.set_cons_zero, List.set_cons_succ]
        refine takeW (i := 1) (v := ?_) (Stable.and (Stable.and (Stable.held _ _) (stable_blkN (w.heap.size + 1) 72 4)) (stable_fi (w.heap.size + 1 + 1) (.slice A7 rs.length c7) rs (.slice A8 ds.length c8) ds)) rfl (by kernel_rfl) (by kernel_rfl) (by kernel_rfl) (fun _ _ _ h => h) ?_ ?_
        rotate_left
        · first | (refine Or.inl ⟨by rfl, fun W hS => detR_value (w' := W) ?_ (Below.refl _ _)⟩; obtain ⟨⟨hH, q1⟩, q2⟩ := hS; obtain ⟨x0, x1, x2, x3, _⟩ := hH.1; go_simp; first | done | with_reducible rfl) | fail
        simp only [Act.put, List.setIfInBounds_toArray, List.set_cons_zero, List.set_cons_succ]
        refine takeW (i := 2) (v := ?_) (Stable.and (Stable.and (Stable.held _ _) (stable_blkN (w.heap.size + 1) 72 4)) (stable_fi (w.heap.size + 1 + 1) (.slice A7 rs.length c7) rs (.slice A8 ds.length c8) ds)) rfl (by kernel_rfl) (by kernel_rfl) (by kernel_rfl) (fun _ _ _ h => h) ?_ ?_
        rotate_left
        · first | (refine Or.inl ⟨by rfl, fun W hS => detR_value (w' := W) ?_ (Below.refl _ _)⟩; obtain ⟨⟨hH, q1⟩, q2⟩ := hS; obtain ⟨x0, x1, x2, x3, _⟩ := hH.1; go_simp; first | done | with_reducible rfl) | fail
        simp only [Act.put, List.setIfInBounds_toArray, List.set_cons_zero, List.set_cons_succ]
        refine takeW (i := 3) (v := ?_) (Stable.and (Stable.and (Stable.held _ _) (stable_blkN (w.heap.size + 1) 72 4)) (stable_fi (w.heap.size + 1 + 1) (.slice A7 rs.length c7) rs (.slice A8 ds.length c8) ds)) rfl (by kernel_rfl) (by kernel_rfl) (by kernel_rfl) (fun _ _ _ h => h) ?_ ?_
        rotate_left
        · first | (refine Or.inr ⟨by rfl, ?_⟩; with_reducible rfl) | (refine Or.inl ⟨by rfl, fun W hS => detR_value (w' := W) ?_ (Below.refl _ _)⟩; obtain ⟨⟨hH, q1⟩, q2⟩ := hS; obtain ⟨x0, x1, x2, x3, _⟩ := hH.1; go_simp; first | done | with_reducible rfl) | fail
        simp only [Act.put, List.setIfInBounds_toArray, List.set_cons_zero, List.set_cons_succ]
        refine takeW (i := 4) (v := ?_) (Stable.and (Stable.and (Stable.held _ _) (stable_blkN (w.heap.size + 1) 72 4)) (stable_fi (w.heap.size + 1 + 1) (.slice A7 rs.length c7) rs (.slice A8 ds.length c8) ds)) rfl (by kernel_rfl) (by kernel_rfl) (by kernel_rfl) (fun _ _ _ h => h) ?_ ?_
        rotate_left
        · first | (refine Or.inr ⟨by rfl, ?_⟩; with_reducible rfl) | (refine Or.inl ⟨by rfl, fun W hS => detR_value (w' := W) ?_ (Below.refl _ _)⟩; obtain ⟨⟨hH, q1⟩, q2⟩ := hS; obtain ⟨x0, x1, x2, x3, _⟩ := hH.1; go_simp; first | done | with_reducible rfl) | fail
        simp only [Act.put, List.setIfInBounds_toArray, List.set_cons_zero, List.set_cons_succ]
        refine takeW (i := 5) (v := ?_) (Stable.and (Stable.and (Stable.held _ _) (stable_blkN (w.heap.size + 1) 72 4)) (stable_fi (w.heap.size + 1 + 1) (.slice A7 rs.length c7) rs (.slice A8 ds.length c8) ds)) rfl (by kernel_rfl) (by kernel_rfl) (by kernel_rfl) (fun _ _ _ h => h) ?_ ?_
        rotate_left
        · first | (refine Or.inr ⟨by rfl, ?_⟩; with_reducible rfl) | (refine Or.inl ⟨by rfl, fun W hS => ?_⟩; obtain ⟨⟨hH, q1⟩, q2⟩ := hS; refine detR_call (w' := W) (f := ?_) (args := ?_) ?_ ?_; rotate_left 2; (go_simp; (refine ⟨?_, ?_⟩ <;> with_reducible rfl)); (first | (with_reducible refine (HT.out _ _ _ _ _ _ _ _ _ _ _ _ hH.below).mono ?_) | fail); (first | (rintro e wn ⟨rfl, hb⟩; refine ⟨?_, hb⟩; with_reducible rfl) | (rintro e wn ⟨rfl, rfl⟩; refine ⟨?_, Below.refl _ _⟩; with_reducible rfl) | fail)) | fail
        simp only [Act.put, List.setIfInBounds_toArray, List.set_cons_zero, List.set_cons_succ]
        refine takeW (i := 6) (v := ?_) (Stable.and (Stable.and (Stable.held _ _) (stable_blkN (w.heap.size + 1) 72 4)) (stable_fi (w.heap.size + 1 + 1) (.slice A7 rs.length c7) rs (.slice A8 ds.length c8) ds)) rfl (by kernel_rfl) (by kernel_rfl) (by kernel_rfl) (fun _ _ _ h => h) ?_ ?_
        rotate_left
        · first | (refine Or.inl ⟨by rfl, fun W hS => detR_value (w' := W) ?_ (Below.refl _ _)⟩; obtain ⟨⟨hH, q1⟩, q2⟩ := hS; obtain ⟨x0, x1, x2, x3, _⟩ := hH.1; go_simp; first | done | with_reducible rfl) | fail
        simp only [Act.put, List.setIfInBounds_toArray, List.set_cons_zero, List.set_cons_succ]
        refine takeW (i := 7) (v := ?_) (Stable.and (Stable.and (Stable.held _ _) (stable_blkN (w.heap.size + 1) 72 4)) (stable_fi (w.heap.size + 1 + 1) (.slice A7 rs.length c7) rs (.slice A8 ds.length c8) ds)) rfl (by kernel_rfl) (by kernel_rfl) (by kernel_rfl) (fun _ _ _ h => h) ?_ ?_
        rotate_left
        · first | (refine Or.inl ⟨by rfl, fun W hS => detR_value (w' := W) ?_ (Below.refl _ _)⟩; obtain ⟨⟨hH, q1⟩, q2⟩ := hS; obtain ⟨x0, x1, x2, x3, _⟩ := hH.1; go_simp; first | done | with_reducible rfl) | fail
        simp only [Act.put, List.setIfInBounds_toArray, List.set_cons_zero, List.set_cons_succ]
        refine takeW (i := 8) (v := ?_) (Stable.and (Stable.and (Stable.held _ _) (stable_blkN (w.heap.size + 1) 72 4)) (stable_fi (w.heap.size + 1 + 1) (.slice A7 rs.length c7) rs (.slice A8 ds.length c8) ds)) rfl (by kernel_rfl) (by kernel_rfl) (by kernel_rfl) (fun _ _ _ h => h) ?_ ?_
        rotate_left
        · first | (refine Or.inr ⟨by rfl, ?_⟩; with_reducible rfl) | (refine Or.inl ⟨by rfl, fun W hS => detR_value (w' := W) ?_ (Below.refl _ _)⟩; obtain ⟨⟨hH, q1⟩, q2⟩ := hS; obtain ⟨x0, x1, x2, x3, _⟩ := hH.1; go_simp; first | done | with_reducible rfl) | fail
        simp only [Act.put, List.setIfInBounds_toArray, List.set_cons_zero, List.set_cons_succ]
        refine takeW (i := 9) (v := ?_) (Stable.and (Stable.and (Stable.held _ _) (stable_blkN (w.heap.size + 1) 72 4)) (stable_fi (w.heap.size + 1 + 1) (.slice A7 rs.length c7) rs (.slice A8 ds.length c8) ds)) rfl (by kernel_rfl) (by kernel_rfl) (by kernel_rfl) (fun _ _ _ h => h) ?_ ?_
        rotate_left
        · first | (refine Or.inr ⟨by rfl, ?_⟩; with_reducible rfl) | (refine Or.inl ⟨by rfl, fun W hS => detR_value (w' := W) ?_ (Below.refl _ _)⟩; obtain ⟨⟨hH, q1⟩, q2⟩ := hS; obtain ⟨x0, x1, x2, x3, _⟩ := hH.1; go_simp; first | done | with_reducible rfl) | fail
        simp only [Act.put, List.setIfInBounds_toArray, List.set_cons_zero, List.set_cons_succ]
        refine takeW (i := 10) (v := ?_) (Stable.and (Stable.and (Stable.held _ _) (stable_blkN (w.heap.size + 1) 72 4)) (stable_fi (w.heap.size + 1 + 1) (.slice A7 rs.length c7) rs (.slice A8 ds.length c8) ds)) rfl (by kernel_rfl) (by kernel_rfl) (by kernel_rfl) (fun _ _ _ h => h) ?_ ?_
        rotate_left
        · first | (refine Or.inr ⟨by rfl, ?_⟩; with_reducible rfl) | (refine Or.inl ⟨by rfl, fun W hS => ?_⟩; obtain ⟨⟨hH, q1⟩, q2⟩ := hS; refine detR_call (w' := W) (f := ?_) (args := ?_) ?_ ?_; rotate_left 2; (go_simp; (refine ⟨?_, ?_⟩ <;> with_reducible rfl)); (first | (with_reducible refine (HCL.out _ _ _ _ _ _ _ (HN.out.step hH.below) (HL.out.step hH.below) q2.f q2.a hH.below).mono ?_) | fail); (first | (rintro e wn ⟨rfl, hb⟩; refine ⟨?_, hb⟩; with_reducible rfl) | (rintro e wn ⟨rfl, rfl⟩; refine ⟨?_, Below.refl _ _⟩; with_reducible rfl) | fail)) | fail
        simp only [Act.put, List.setIfInBounds_toArray, List.set_cons_zero, List.set_cons_succ]
        refine takeW (i := 11) (v := ?_) (Stable.and (Stable.and (Stable.held _ _) (stable_blkN (w.heap.size + 1) 72 4)) (stable_fi (w.heap.size + 1 + 1) (.slice A7 rs.length c7) rs (.slice A8 ds.length c8) ds)) rfl (by kernel_rfl) (by kernel_rfl) (by kernel_rfl) (fun _ _ _ h => h) ?_ ?_
        rotate_left
        · first | (refine Or.inr ⟨by rfl, ?_⟩; with_reducible rfl) | (refine Or.inl ⟨by rfl, fun W hS => detR_value (w' := W) ?_ (Below.refl _ _)⟩; obtain ⟨⟨hH, q1⟩, q2⟩ := hS; obtain ⟨x0, x1, x2, x3, _⟩ := hH.1; go_simp; first | done | with_reducible rfl) | fail
        simp only [Act.put, List.setIfInBounds_toArray, List.set_cons_zero, List.set_cons_succ]
        refine takeW (i := 12) (v := ?_) (Stable.and (Stable.and (Stable.held _ _) (stable_blkN (w.heap.size + 1) 72 4)) (stable_fi (w.heap.size + 1 + 1) (.slice A7 rs.length c7) rs (.slice A8 ds.length c8) ds)) rfl (by kernel_rfl) (by kernel_rfl) (by kernel_rfl) (fun _ _ _ h => h) ?_ ?_
        rotate_left
        · first | (refine Or.inl ⟨by rfl, fun W hS => detR_value (w' := W) ?_ (Below.refl _ _)⟩; obtain ⟨⟨hH, q1⟩, q2⟩ := hS; obtain ⟨x0, x1, x2, x3, _⟩ := hH.1; go_simp; first | done | with_reducible rfl) | fail
        simp only [Act.put, List.setIfInBounds_toArray, List.set_cons_zero, List.set_cons_succ]
        refine storeK (i := 13) (b := w.heap.size + 1) #[.slice A ns.length c, .slice A2 ls.length c2, .slice A7 rs.length c7, .slice A8 ds.length c8] (Stable.and (Stable.and (Stable.held _ _) (stable_blkN (w.heap.size + 1) 72 4)) (stable_fi (w.heap.size + 1 + 1) (.slice A7 rs.length c7) rs (.slice A8 ds.length c8) ds)) (fun W hS => by obtain ⟨⟨hH, q1⟩, q2⟩ := hS; exact q1) (fun W hS => by obtain ⟨⟨hH, q1⟩, q2⟩ := hS; exact ⟨⟨hH.setRowAt (by simp; omega) (Nat.le_succ _) _, q1.setRow rfl⟩, q2.setRow (Nat.lt_succ_self _) _⟩) rfl (by kernel_rfl) (by rfl) rfl (by rfl) (by rfl) rfl (by kernel_rfl) (by simp [Value.oneCell']) ?_
        simp only [Act.put, List.setIfInBounds_toArray, List.set_cons_zero, List.set_cons_succ]
        refine takeW (i := 14) (v := ?_) (Stable.and (Stable.and (Stable.and (Stable.held _ _) (stable_blkN (w.heap.size + 1) 72 4)) (stable_fi (w.heap.size + 1 + 1) (.slice A7 rs.length c7) rs (.slice A8 ds.length c8) ds)) (stable_blkIs _ _ _)) rfl (by kernel_rfl) (by kernel_rfl) (by kernel_rfl) (fun _ _ _ h => h) ?_ ?_
        rotate_left
        · first | (refine Or.inl ⟨by rfl, fun W hS => detR_value (w' := W) ?_ (Below.refl _ _)⟩; obtain ⟨⟨⟨hH, q1⟩, q2⟩, hs⟩ := hS; obtain ⟨x0, x1, x2, x3, _⟩ := hH.1; go_simp; first | done | with_reducible rfl) | fail
        simp only [Act.put, List.setIfInBounds_toArray, List.set_cons_zero, List.set_cons_succ]
        refine doneW (by kernel_rfl) fun wH7 HG => ?_
        obtain ⟨⟨⟨hH, q1⟩, q2⟩, hs⟩ := HG
        have H7 := Lib.hid hH; clear hH
        have MH7_q1 := Lib.hid q1; clear q1
        have MH7_q2 := Lib.hid q2; clear q2
        have MH7_s := Lib.hid hs; clear hs
        try clear x0 x1 x2 x3
        have r0 := (cell_of_cells (k := 0) MH7_s.out).trans (rfl : _ = some (Value.slice A ns.length c))
        have r1 := (cell_of_cells (k := 1) MH7_s.out).trans (rfl : _ = some (Value.slice A2 ls.length c2))
        have r2 := (cell_of_cells (k := 2) MH7_s.out).trans (rfl : _ = some (Value.slice A7 rs.length c7))
        have r3 := (cell_of_cells (k := 3) MH7_s.out).trans (rfl : _ = some (Value.slice A8 ds.length c8))
        go_wp2_with fail
        refine bodyPost_ret (v := .tuple #[.agg #[.slice A ns.length c, .slice A2 ls.length c2, .slice A7 rs.length c7, .slice A8 ds.length c8], .bool false]) (by simp [results, Tryz.results55, go_sem, r0, r1, r2, r3]) rfl ⟨_, _, _, _, by rw [HRES.out], ?_, ?_, ?_, ?_, H7.out.below⟩
        · rw [HGN.out]; exact HN.out.step H7.out.below
        · rw [HGL2.out]; exact HL.out.step H7.out.below
        · rw [HWF.out]; exact MH7_q2.out.f.mono (by omega)
        · rw [HGA.out]; exact MH7_q2.out.a.mono (by omega)
      · refine regionW (fun W => ((Held _ W [(w1.heap.size, 0, .slice A ns.length c), (w1.heap.size, 1, .slice A2 ls.length c2), (w1.heap.size, 2, .slice A7 rs.length c7), (w1.heap.size, 3, .slice A8 ds.length c8)]) ∧ BlkN (w.heap.size + 1) 72 4 W) ∧ FI (w.heap.size + 1 + 1) (.slice A7 rs.length c7) rs (.slice A8 ds.length c8) ds W) (by kernel_rfl) ⟨⟨H8.out.drew, HK9.out⟩, (FI9.out).step ((Below.refl _ _).drew)⟩ ?_
        refine takeW (i := 0) (v := ?_) (Stable.and (Stable.and (Stable.held _ _) (stable_blkN (w.heap.size + 1) 72 4)) (stable_fi (w.heap.size + 1 + 1) (.slice A7 rs.length c7) rs (.slice A8 ds.length c8) ds)) rfl (by kernel_rfl) (by kernel_rfl) (by kernel_rfl) (fun _ _ _ h => h) ?_ ?_
        rotate_left
        · first | (refine Or.inl ⟨by rfl, fun W hS => detR_value (w' := W) ?_ (Below.refl _ _)⟩; obtain ⟨⟨hH, q1⟩, q2⟩ := hS; obtain ⟨x0, x1, x2, x3, _⟩ := hH.1; go_simp; first | done | with_reducible rfl) | fail
        simp only [Act.put, List.setIfInBounds_toArray, List.set_cons_zero, List.set_cons_succ]
        refine takeW (i := 1) (v := ?_) (Stable.and (Stable.and (Stable.held _ _) (stable_blkN (w.heap.size + 1) 72 4)) (stable_fi (w.heap.size + 1 + 1) (.slice A7 rs.length c7) rs (.slice A8 ds.length c8) ds)) rfl (by kernel_rfl) (by kernel_rfl) (by kernel_rfl) (fun _ _ _ h => h) ?_ ?_
        rotate_left
        · first | (refine Or.inl ⟨by rfl, fun W hS => detR_value (w' := W) ?_ (Below.refl _ _)⟩; obtain ⟨⟨hH, q1⟩, q2⟩ := hS; obtain ⟨x0, x1, x2, x3, _⟩ := hH.1; go_simp; first | done | with_reducible rfl) | fail
        simp only [Act.put, List.setIfInBounds_toArray, List.set_cons_zero, List.set_cons_succ]
        refine takeW (i := 2) (v := ?_) (Stable.and (Stable.and (Stable.held _ _) (stable_blkN (w.heap.size + 1) 72 4)) (stable_fi (w.heap.size + 1 + 1) (.slice A7 rs.length c7) rs (.slice A8 ds.length c8) ds)) rfl (by kernel_rfl) (by kernel_rfl) (by kernel_rfl) (fun _ _ _ h => h) ?_ ?_
        rotate_left
        · first | (refine Or.inl ⟨by rfl, fun W hS => detR_value (w' := W) ?_ (Below.refl _ _)⟩; obtain ⟨⟨hH, q1⟩, q2⟩ := hS; obtain ⟨x0, x1, x2, x3, _⟩ := hH.1; go_simp; first | done | with_reducible rfl) | fail
        simp only [Act.put, List.setIfInBounds_toArray, List.set_cons_zero, List.set_cons_succ]
        refine takeW (i := 3) (v := ?_) (Stable.and (Stable.and (Stable.held _ _) (stable_blkN (w.heap.size + 1) 72 4)) (stable_fi (w.heap.size + 1 + 1) (.slice A7 rs.length c7) rs (.slice A8 ds.length c8) ds)) rfl (by kernel_rfl) (by kernel_rfl) (by kernel_rfl) (fun _ _ _ h => h) ?_ ?_
        rotate_left
        · first | (refine Or.inr ⟨by rfl, ?_⟩; with_reducible rfl) | (refine Or.inl ⟨by rfl, fun W hS => detR_value (w' := W) ?_ (Below.refl _ _)⟩; obtain ⟨⟨hH, q1⟩, q2⟩ := hS; obtain ⟨x0, x1, x2, x3, _⟩ := hH.1; go_simp; first | done | with_reducible rfl) | fail
        simp only [Act.put, List.setIfInBounds_toArray, List.set_cons_zero, List.set_cons_succ]
        refine takeW (i := 4) (v := ?_) (Stable.and (Stable.and (Stable.held _ _) (stable_blkN (w.heap.size + 1) 72 4)) (stable_fi (w.heap.size + 1 + 1) (.slice A7 rs.length c7) rs (.slice A8 ds.length c8) ds)) rfl (by kernel_rfl) (by kernel_rfl) (by kernel_rfl) (fun _ _ _ h => h) ?_ ?_
        rotate_left
        · first | (refine Or.inr ⟨by rfl, ?_⟩; with_reducible rfl) | (refine Or.inl ⟨by rfl, fun W hS => detR_value (w' := W) ?_ (Below.refl _ _)⟩; obtain ⟨⟨hH, q1⟩, q2⟩ := hS; obtain ⟨x0, x1, x2, x3, _⟩ := hH.1; go_simp; first | done | with_reducible rfl) | fail
        simp only [Act.put, List.setIfInBounds_toArray, List.set_cons_zero, List.set_cons_succ]
        refine takeW (i := 5) (v := ?_) (Stable.and (Stable.and (Stable.held _ _) (stable_blkN (w.heap.size + 1) 72 4)) (stable_fi (w.heap.size + 1 + 1) (.slice A7 rs.length c7) rs (.slice A8 ds.length c8) ds)) rfl (by kernel_rfl) (by kernel_rfl) (by kernel_rfl) (fun _ _ _ h => h) ?_ ?_
        rotate_left
        · first | (refine Or.inr ⟨by rfl, ?_⟩; with_reducible rfl) | (refine Or.inl ⟨by rfl, fun W hS => ?_⟩; obtain ⟨⟨hH, q1⟩, q2⟩ := hS; refine detR_call (w' := W) (f := ?_) (args := ?_) ?_ ?_; rotate_left 2; (go_simp; (refine ⟨?_, ?_⟩ <;> with_reducible rfl)); (first | (with_reducible refine (HT.out _ _ _ _ _ _ _ _ _ _ _ _ hH.below).mono ?_) | fail); (first | (rintro e wn ⟨rfl, hb⟩; refine ⟨?_, hb⟩; with_reducible rfl) | (rintro e wn ⟨rfl, rfl⟩; refine ⟨?_, Below.refl _ _⟩; with_reducible rfl) | fail)) | fail
        simp only [Act.put, List.setIfInBounds_toArray, List.set_cons_zero, List.set_cons_succ]
        refine takeW (i := 6) (v := ?_) (Stable.and (Stable.and (Stable.held _ _) (stable_blkN (w.heap.size + 1) 72 4)) (stable_fi (w.heap.size + 1 + 1) (.slice A7 rs.length c7) rs (.slice A8 ds.length c8) ds)) rfl (by kernel_rfl) (by kernel_rfl) (by kernel_rfl) (fun _ _ _ h => h) ?_ ?_
        rotate_left
        · first | (refine Or.inl ⟨by rfl, fun W hS => detR_value (w' := W) ?_ (Below.refl _ _)⟩; obtain ⟨⟨hH, q1⟩, q2⟩ := hS; obtain ⟨x0, x1, x2, x3, _⟩ := hH.1; go_simp; first | done | with_reducible rfl) | fail
        simp only [Act.put, List.setIfInBounds_toArray, List.set_cons_zero, List.set_cons_succ]
        refine takeW (i := 7) (v := ?_) (Stable.and (Stable.and (Stable.held _ _) (stable_blkN (w.heap.size + 1) 72 4)) (stable_fi (w.heap.size + 1 + 1) (.slice A7 rs.length c7) rs (.slice A8 ds.length c8) ds)) rfl (by kernel_rfl) (by kernel_rfl) (by kernel_rfl) (fun _ _ _ h => h) ?_ ?_
        rotate_left
        · first | (refine Or.inl ⟨by rfl, fun W hS => detR_value (w' := W) ?_ (Below.refl _ _)⟩; obtain ⟨⟨hH, q1⟩, q2⟩ := hS; obtain ⟨x0, x1, x2, x3, _⟩ := hH.1; go_simp; first | done | with_reducible rfl) | fail
        simp only [Act.put, List.setIfInBounds_toArray, List.set_cons_zero, List.set_cons_succ]
        refine takeW (i := 8) (v := ?_) (Stable.and (Stable.and (Stable.held _ _) (stable_blkN (w.heap.size + 1) 72 4)) (stable_fi (w.heap.size + 1 + 1) (.slice A7 rs.length c7) rs (.slice A8 ds.length c8) ds)) rfl (by kernel_rfl) (by kernel_rfl) (by kernel_rfl) (fun _ _ _ h => h) ?_ ?_
        rotate_left
        · first | (refine Or.inr ⟨by rfl, ?_⟩; with_reducible rfl) | (refine Or.inl ⟨by rfl, fun W hS => detR_value (w' := W) ?_ (Below.refl _ _)⟩; obtain ⟨⟨hH, q1⟩, q2⟩ := hS; obtain ⟨x0, x1, x2, x3, _⟩ := hH.1; go_simp; first | done | with_reducible rfl) | fail
        simp only [Act.put, List.setIfInBounds_toArray, List.set_cons_zero, List.set_cons_succ]
        refine takeW (i := 9) (v := ?_) (Stable.and (Stable.and (Stable.held _ _) (stable_blkN (w.heap.size + 1) 72 4)) (stable_fi (w.heap.size + 1 + 1) (.slice A7 rs.length c7) rs (.slice A8 ds.length c8) ds)) rfl (by kernel_rfl) (by kernel_rfl) (by kernel_rfl) (fun _ _ _ h => h) ?_ ?_
        rotate_left
        · first | (refine Or.inr ⟨by rfl, ?_⟩; with_reducible rfl) | (refine Or.inl ⟨by rfl, fun W hS => detR_value (w' := W) ?_ (Below.refl _ _)⟩; obtain ⟨⟨hH, q1⟩, q2⟩ := hS; obtain ⟨x0, x1, x2, x3, _⟩ := hH.1; go_simp; first | done | with_reducible rfl) | fail
        simp only [Act.put, List.setIfInBounds_toArray, List.set_cons_zero, List.set_cons_succ]
        refine takeW (i := 10) (v := ?_) (Stable.and (Stable.and (Stable.held _ _) (stable_blkN (w.heap.size + 1) 72 4)) (stable_fi (w.heap.size + 1 + 1) (.slice A7 rs.length c7) rs (.slice A8 ds.length c8) ds)) rfl (by kernel_rfl) (by kernel_rfl) (by kernel_rfl) (fun _ _ _ h => h) ?_ ?_
        rotate_left
        · first | (refine Or.inr ⟨by rfl, ?_⟩; with_reducible rfl) | (refine Or.inl ⟨by rfl, fun W hS => ?_⟩; obtain ⟨⟨hH, q1⟩, q2⟩ := hS; refine detR_call (w' := W) (f := ?_) (args := ?_) ?_ ?_; rotate_left 2; (go_simp; (refine ⟨?_, ?_⟩ <;> with_reducible rfl)); (first | (with_reducible refine (HCL.out _ _ _ _ _ _ _ (HN.out.step hH.below) (HL.out.step hH.below) q2.f q2.a hH.below).mono ?_) | fail); (first | (rintro e wn ⟨rfl, hb⟩; refine ⟨?_, hb⟩; with_reducible rfl) | (rintro e wn ⟨rfl, rfl⟩; refine ⟨?_, Below.refl _ _⟩; with_reducible rfl) | fail)) | fail
        simp only [Act.put, List.setIfInBounds_toArray, List.set_cons_zero, List.set_cons_succ]
        refine takeW (i := 11) (v := ?_) (Stable.and (Stable.and (Stable.held _ _) (stable_blkN (w.heap.size + 1) 72 4)) (stable_fi (w.heap.size + 1 + 1) (.slice A7 rs.length c7) rs (.slice A8 ds.length c8) ds)) rfl (by kernel_rfl) (by kernel_rfl) (by kernel_rfl) (fun _ _ _ h => h) ?_ ?_
        rotate_left
        · first | (refine Or.inr ⟨by rfl, ?_⟩; with_reducible rfl) | (refine Or.inl ⟨by rfl, fun W hS => detR_value (w' := W) ?_ (Below.refl _ _)⟩; obtain ⟨⟨hH, q1⟩, q2⟩ := hS; obtain ⟨x0, x1, x2, x3, _⟩ := hH.1; go_simp; first | done | with_reducible rfl) | fail
        simp only [Act.put, List.setIfInBounds_toArray, List.set_cons_zero, List.set_cons_succ]
        refine takeW (i := 12) (v := ?_) (Stable.and (Stable.and (Stable.held _ _) (stable_blkN (w.heap.size + 1) 72 4)) (stable_fi (w.heap.size + 1 + 1) (.slice A7 rs.length c7) rs (.slice A8 ds.length c8) ds)) rfl (by kernel_rfl) (by kernel_rfl) (by kernel_rfl) (fun _ _ _ h => h) ?_ ?_
        rotate_left
        · first | (refine Or.inl ⟨by rfl, fun W hS => detR_value (w' := W) ?_ (Below.refl _ _)⟩; obtain ⟨⟨hH, q1⟩, q2⟩ := hS; obtain ⟨x0, x1, x2, x3, _⟩ := hH.1; go_simp; first | done | with_reducible rfl) | fail
        simp only [Act.put, List.setIfInBounds_toArray, List.set_cons_zero, List.set_cons_succ]
        refine storeK (i := 13) (b := w.heap.size + 1) #[.slice A ns.length c, .slice A2 ls.length c2, .slice A7 rs.length c7, .slice A8 ds.length c8] (Stable.and (Stable.and (Stable.held _ _) (stable_blkN (w.heap.size + 1) 72 4)) (stable_fi (w.heap.size + 1 + 1) (.slice A7 rs.length c7) rs (.slice A8 ds.length c8) ds)) (fun W hS => by obtain ⟨⟨hH, q1⟩, q2⟩ := hS; exact q1) (fun W hS => by obtain ⟨⟨hH, q1⟩, q2⟩ := hS; exact ⟨⟨hH.setRowAt (by simp; omega) (Nat.le_succ _) _, q1.setRow rfl⟩, q2.setRow (Nat.lt_succ_self _) _⟩) rfl (by kernel_rfl) (by rfl) rfl (by rfl) (by rfl) rfl (by kernel_rfl) (by simp [Value.oneCell']) ?_
        simp only [Act.put, List.setIfInBounds_toArray, List.set_cons_zero, List.set_cons_succ]
        refine takeW (i := 14) (v := ?_) (Stable.and (Stable.and (Stable.and (Stable.held _ _) (stable_blkN (w.heap.size + 1) 72 4)) (stable_fi (w.heap.size + 1 + 1) (.slice A7 rs.length c7) rs (.slice A8 ds.length c8) ds)) (stable_blkIs _ _ _)) rfl (by kernel_rfl) (by kernel_rfl) (by kernel_rfl) (fun _ _ _ h => h) ?_ ?_
        rotate_left
        · first | (refine Or.inl ⟨by rfl, fun W hS => detR_value (w' := W) ?_ (Below.refl _ _)⟩; obtain ⟨⟨⟨hH, q1⟩, q2⟩, hs⟩ := hS; obtain ⟨x0, x1, x2, x3, _⟩ := hH.1; go_simp; first | done | with_reducible rfl) | fail
        simp only [Act.put, List.setIfInBounds_toArray, List.set_cons_zero, List.set_cons_succ]
        refine doneW (by kernel_rfl) fun wH7 HG => ?_
        obtain ⟨⟨⟨hH, q1⟩, q2⟩, hs⟩ := HG
        have H7 := Lib.hid hH; clear hH
        have MH7_q1 := Lib.hid q1; clear q1
        have MH7_q2 := Lib.hid q2; clear q2
        have MH7_s := Lib.hid hs; clear hs
        try clear x0 x1 x2 x3
        have r0 := (cell_of_cells (k := 0) MH7_s.out).trans (rfl : _ = some (Value.slice A ns.length c))
        have r1 := (cell_of_cells (k := 1) MH7_s.out).trans (rfl : _ = some (Value.slice A2 ls.length c2))
        have r2 := (cell_of_cells (k := 2) MH7_s.out).trans (rfl : _ = some (Value.slice A7 rs.length c7))
        have r3 := (cell_of_cells (k := 3) MH7_s.out).trans (rfl : _ = some (Value.slice A8 ds.length c8))
        go_wp2_with fail
        refine bodyPost_ret (v := .tuple #[.agg #[.slice A ns.length c, .slice A2 ls.length c2, .slice A7 rs.length c7, .slice A8 ds.length c8], .bool true]) (by simp [results, Tryz.results55, go_sem, r0, r1, r2, r3]) rfl ⟨_, _, _, _, by rw [HRES.out], ?_, ?_, ?_, ?_, H7.out.below⟩
        · rw [HGN.out]; exact HN.out.step H7.out.below
        · rw [HGL2.out]; exact HL.out.step H7.out.below
        · rw [HWF.out]; exact MH7_q2.out.f.mono (by omega)
        · rw [HGA.out]; exact MH7_q2.out.a.mono (by omega)
  · have HGY := Lib.hid (fun w h1 h2 => implGlassNo ns ls vn vl w h1 h2 (by simpa using hh))
    unfold GlassNo at HGY
    have HGN := Lib.hid (show gN ns ls = [] from if_neg hh)
    have HGL2 := Lib.hid (show gL ns ls = [] from if_neg hh)
    have HGA := Lib.hid (show gA ns ls = [] from if_neg hh)
    have HWF := Lib.hid (show wF ns ls = [] from if_neg hh)
    unfold GlassL
    have HRES := Lib.hid (show properB ns ls xs = false from by unfold properB listB; rw [show wholeB ns ls = false by simpa using hh]; rfl)
    generalize properB ns ls xs = res at *
    have HX0 : Hid True := Lib.hid True.intro
    generalize wF ns ls = wf at *
    generalize gA ns ls = ga at *
    generalize gN ns ls = gn at *
    generalize gL ns ls = gl at *
    clear hh
    obtain ⟨A, c, rfl⟩ := prs_form2 hn
    obtain ⟨A2, c2, rfl⟩ := prs_form2 hl
    obtain ⟨A3, c3, rfl⟩ := seq_form2 hv
    clear hn hl hv
    go_enter Tryz.func55, Tryz.ntmps55
    go_wp2_with fail
    refine (HGY.out _ (HN.out.step H0.out.below) (HL.out.step H0.out.below)).mono ?_
    rintro e w1 ⟨rfl, hb⟩
    have H1 := Lib.hid (H0.out.step hb)
    have HB1 := Lib.hid (stable_blkN _ _ _ _ _ HB0.out hb)
    have hs1 := H1.out.2.1.1
    have H2 := Lib.hid (H1.out.new2 w1.heap.size rfl [.slice none 0 0, .slice none 0 0, .slice none 0 0, .slice none 0 0] 72)
    have H8 := Lib.hid (show Held w _ [(w1.heap.size, 0, .slice none 0 0), (w1.heap.size, 1, .slice none 0 0), (w1.heap.size, 2, .slice none 0 0), (w1.heap.size, 3, .slice none 0 0)] from H2.out.only (fun ⟨a, b, c, d, _⟩ => ⟨a, b, c, d, trivial⟩) (fun ⟨a, b, c, d, _⟩ => ⟨a, b, c, d, trivial⟩))
    have bq := below_alloc w1 (.cells #[.slice none 0 0, .slice none 0 0, .slice none 0 0, .slice none 0 0] 72)
    have HK9 := Lib.hid (stable_blkN _ _ _ _ _ HB1.out bq)
    clear hb bq H1 H2 HB0 HB1 H0 HGY
    obtain ⟨x0, x1, x2, x3, _⟩ := H8.out.1
    go_wp2_with fail
    generalize w1.alloc (.cells #[.slice none 0 0, .slice none 0 0, .slice none 0 0, .slice none 0 0] 72) = W8 at *
    refine regionW (fun W => (Held _ W [(w1.heap.size, 0, .slice none 0 0), (w1.heap.size, 1, .slice none 0 0), (w1.heap.size, 2, .slice none 0 0), (w1.heap.size, 3, .slice none 0 0)]) ∧ BlkN (w.heap.size + 1) 72 4 W) (by kernel_rfl) ⟨H8.out.drew, HK9.out⟩ ?_
    refine takeW (i := 0) (v := ?_) (Stable.and (Stable.held _ _) (stable_blkN (w.heap.size + 1) 72 4)) rfl (by kernel_rfl) (by kernel_rfl) (by kernel_rfl) (fun _ _ _ h => h) ?_ ?_
    rotate_left
    · first | (refine Or.inl ⟨by rfl, fun W hS => detR_value (w' := W) ?_ (Below.refl _ _)⟩; obtain ⟨hH, q1⟩ := hS; obtain ⟨x0, x1, x2, x3, _⟩ := hH.1; go_simp; first | done | with_reducible rfl) | fail
    simp only [Act.put, List.setIfInBounds_toArray, List.set_cons_zero, List.set_cons_succ]
    refine takeW (i := 1) (v := ?_) (Stable.and (Stable.held _ _) (stable_blkN (w.heap.size + 1) 72 4)) rfl (by kernel_rfl) (by kernel_rfl) (by kernel_rfl) (fun _ _ _ h => h) ?_ ?_
    rotate_left
    · first | (refine Or.inl ⟨by rfl, fun W hS => detR_value (w' := W) ?_ (Below.refl _ _)⟩; obtain ⟨hH, q1⟩ := hS; obtain ⟨x0, x1, x2, x3, _⟩ := hH.1; go_simp; first | done | with_reducible rfl) | fail
    simp only [Act.put, List.setIfInBounds_toArray, List.set_cons_zero, List.set_cons_succ]
    refine takeW (i := 2) (v := ?_) (Stable.and (Stable.held _ _) (stable_blkN (w.heap.size + 1) 72 4)) rfl (by kernel_rfl) (by kernel_rfl) (by kernel_rfl) (fun _ _ _ h => h) ?_ ?_
    rotate_left
    · first | (refine Or.inl ⟨by rfl, fun W hS => detR_value (w' := W) ?_ (Below.refl _ _)⟩; obtain ⟨hH, q1⟩ := hS; obtain ⟨x0, x1, x2, x3, _⟩ := hH.1; go_simp; first | done | with_reducible rfl) | fail
    simp only [Act.put, List.setIfInBounds_toArray, List.set_cons_zero, List.set_cons_succ]
    refine takeW (i := 3) (v := ?_) (Stable.and (Stable.held _ _) (stable_blkN (w.heap.size + 1) 72 4)) rfl (by kernel_rfl) (by kernel_rfl) (by kernel_rfl) (fun _ _ _ h => h) ?_ ?_
    rotate_left
    · first | (refine Or.inr ⟨by rfl, ?_⟩; with_reducible rfl) | (refine Or.inl ⟨by rfl, fun W hS => detR_value (w' := W) ?_ (Below.refl _ _)⟩; obtain ⟨hH, q1⟩ := hS; obtain ⟨x0, x1, x2, x3, _⟩ := hH.1; go_simp; first | done | with_reducible rfl) | fail
    simp only [Act.put, List.setIfInBounds_toArray, List.set_cons_zero, List.set_cons_succ]
    refine takeW (i := 4) (v := ?_) (Stable.and (Stable.held _ _) (stable_blkN (w.heap.size + 1) 72 4)) rfl (by kernel_rfl) (by kernel_rfl) (by kernel_rfl) (fun _ _ _ h => h) ?_ ?_
    rotate_left
    · first | (refine Or.inr ⟨by rfl, ?_⟩; with_reducible rfl) | (refine Or.inl ⟨by rfl, fun W hS => detR_value (w' := W) ?_ (Below.refl _ _)⟩; obtain ⟨hH, q1⟩ := hS; obtain ⟨x0, x1, x2, x3, _⟩ := hH.1; go_simp; first | done | with_reducible rfl) | fail
    simp only [Act.put, List.setIfInBounds_toArray, List.set_cons_zero, List.set_cons_succ]
    refine takeW (i := 5) (v := ?_) (Stable.and (Stable.held _ _) (stable_blkN (w.heap.size + 1) 72 4)) rfl (by kernel_rfl) (by kernel_rfl) (by kernel_rfl) (fun _ _ _ h => h) ?_ ?_
    rotate_left
    · first | (refine Or.inr ⟨by rfl, ?_⟩; with_reducible rfl) | (refine Or.inl ⟨by rfl, fun W hS => ?_⟩; obtain ⟨hH, q1⟩ := hS; refine detR_call (w' := W) (f := ?_) (args := ?_) ?_ ?_; rotate_left 2; (go_simp; (refine ⟨?_, ?_⟩ <;> with_reducible rfl)); (first | (with_reducible refine (HT.out _ _ _ _ _ _ _ _ _ _ _ _ hH.below).mono ?_) | fail); (first | (rintro e wn ⟨rfl, hb⟩; refine ⟨?_, hb⟩; with_reducible rfl) | (rintro e wn ⟨rfl, rfl⟩; refine ⟨?_, Below.refl _ _⟩; with_reducible rfl) | fail)) | fail
    simp only [Act.put, List.setIfInBounds_toArray, List.set_cons_zero, List.set_cons_succ]
    refine takeW (i := 6) (v := ?_) (Stable.and (Stable.held _ _) (stable_blkN (w.heap.size + 1) 72 4)) rfl (by kernel_rfl) (by kernel_rfl) (by kernel_rfl) (fun _ _ _ h => h) ?_ ?_
    rotate_left
    · first | (refine Or.inl ⟨by rfl, fun W hS => detR_value (w' := W) ?_ (Below.refl _ _)⟩; obtain ⟨hH, q1⟩ := hS; obtain ⟨x0, x1, x2, x3, _⟩ := hH.1; go_simp; first | done | with_reducible rfl) | fail
    simp only [Act.put, List.setIfInBounds_toArray, List.set_cons_zero, List.set_cons_succ]
    refine takeW (i := 7) (v := ?_) (Stable.and (Stable.held _ _) (stable_blkN (w.heap.size + 1) 72 4)) rfl (by kernel_rfl) (by kernel_rfl) (by kernel_rfl) (fun _ _ _ h => h) ?_ ?_
    rotate_left
    · first | (refine Or.inl ⟨by rfl, fun W hS => detR_value (w' := W) ?_ (Below.refl _ _)⟩; obtain ⟨hH, q1⟩ := hS; obtain ⟨x0, x1, x2, x3, _⟩ := hH.1; go_simp; first | done | with_reducible rfl) | fail
    simp only [Act.put, List.setIfInBounds_toArray, List.set_cons_zero, List.set_cons_succ]
    refine takeW (i := 8) (v := ?_) (Stable.and (Stable.held _ _) (stable_blkN (w.heap.size + 1) 72 4)) rfl (by kernel_rfl) (by kernel_rfl) (by kernel_rfl) (fun _ _ _ h => h) ?_ ?_
    rotate_left
    · first | (refine Or.inr ⟨by rfl, ?_⟩; with_reducible rfl) | (refine Or.inl ⟨by rfl, fun W hS => detR_value (w' := W) ?_ (Below.refl _ _)⟩; obtain ⟨hH, q1⟩ := hS; obtain ⟨x0, x1, x2, x3, _⟩ := hH.1; go_simp; first | done | with_reducible rfl) | fail
    simp only [Act.put, List.setIfInBounds_toArray, List.set_cons_zero, List.set_cons_succ]
    refine takeW (i := 9) (v := ?_) (Stable.and (Stable.held _ _) (stable_blkN (w.heap.size + 1) 72 4)) rfl (by kernel_rfl) (by kernel_rfl) (by kernel_rfl) (fun _ _ _ h => h) ?_ ?_
    rotate_left
    · first | (refine Or.inr ⟨by rfl, ?_⟩; with_reducible rfl) | (refine Or.inl ⟨by rfl, fun W hS => detR_value (w' := W) ?_ (Below.refl _ _)⟩; obtain ⟨hH, q1⟩ := hS; obtain ⟨x0, x1, x2, x3, _⟩ := hH.1; go_simp; first | done | with_reducible rfl) | fail
    simp only [Act.put, List.setIfInBounds_toArray, List.set_cons_zero, List.set_cons_succ]
    refine takeW (i := 10) (v := ?_) (Stable.and (Stable.held _ _) (stable_blkN (w.heap.size + 1) 72 4)) rfl (by kernel_rfl) (by kernel_rfl) (by kernel_rfl) (fun _ _ _ h => h) ?_ ?_
    rotate_left
    · first | (refine Or.inr ⟨by rfl, ?_⟩; with_reducible rfl) | (refine Or.inl ⟨by rfl, fun W hS => ?_⟩; obtain ⟨hH, q1⟩ := hS; refine detR_call (w' := W) (f := ?_) (args := ?_) ?_ ?_; rotate_left 2; (go_simp; (refine ⟨?_, ?_⟩ <;> with_reducible rfl)); (first | (with_reducible refine (HX0.out _ hH.below).mono ?_) | fail); (first | (rintro e wn ⟨rfl, hb⟩; refine ⟨?_, hb⟩; with_reducible rfl) | (rintro e wn ⟨rfl, rfl⟩; refine ⟨?_, Below.refl _ _⟩; with_reducible rfl) | fail)) | fail
    simp only [Act.put, List.setIfInBounds_toArray, List.set_cons_zero, List.set_cons_succ]
    refine takeW (i := 11) (v := ?_) (Stable.and (Stable.held _ _) (stable_blkN (w.heap.size + 1) 72 4)) rfl (by kernel_rfl) (by kernel_rfl) (by kernel_rfl) (fun _ _ _ h => h) ?_ ?_
    rotate_left
    · first | (refine Or.inr ⟨by rfl, ?_⟩; with_reducible rfl) | (refine Or.inl ⟨by rfl, fun W hS => detR_value (w' := W) ?_ (Below.refl _ _)⟩; obtain ⟨hH, q1⟩ := hS; obtain ⟨x0, x1, x2, x3, _⟩ := hH.1; go_simp; first | done | with_reducible rfl) | fail
    simp only [Act.put, List.setIfInBounds_toArray, List.set_cons_zero, List.set_cons_succ]
    refine takeW (i := 12) (v := ?_) (Stable.and (Stable.held _ _) (stable_blkN (w.heap.size + 1) 72 4)) rfl (by kernel_rfl) (by kernel_rfl) (by kernel_rfl) (fun _ _ _ h => h) ?_ ?_
    rotate_left
    · first | (refine Or.inl ⟨by rfl, fun W hS => detR_value (w' := W) ?_ (Below.refl _ _)⟩; obtain ⟨hH, q1⟩ := hS; obtain ⟨x0, x1, x2, x3, _⟩ := hH.1; go_simp; first | done | with_reducible rfl) | fail
    simp only [Act.put, List.setIfInBounds_toArray, List.set_cons_zero, List.set_cons_succ]
    refine storeK (i := 13) (b := w.heap.size + 1) #[.slice none 0 0, .slice none 0 0, .slice none 0 0, .slice none 0 0] (Stable.and (Stable.held _ _) (stable_blkN (w.heap.size + 1) 72 4)) (fun W hS => by obtain ⟨hH, q1⟩ := hS; exact q1) (fun W hS => by obtain ⟨hH, q1⟩ := hS; exact ⟨hH.setRowAt (by simp; omega) (Nat.le_succ _) _, q1.setRow rfl⟩) rfl (by kernel_rfl) (by rfl) rfl (by rfl) (by rfl) rfl (by kernel_rfl) (by simp [Value.oneCell']) ?_
    simp only [Act.put, List.setIfInBounds_toArray, List.set_cons_zero, List.set_cons_succ]
    refine takeW (i := 14) (v := ?_) (Stable.and (Stable.and (Stable.held _ _) (stable_blkN (w.heap.size + 1) 72 4)) (stable_blkIs _ _ _)) rfl (by kernel_rfl) (by kernel_rfl) (by kernel_rfl) (fun _ _ _ h => h) ?_ ?_
    rotate_left
    · first | (refine Or.inl ⟨by rfl, fun W hS => detR_value (w' := W) ?_ (Below.refl _ _)⟩; obtain ⟨⟨hH, q1⟩, hs⟩ := hS; obtain ⟨x0, x1, x2, x3, _⟩ := hH.1; go_simp; first | done | with_reducible rfl) | fail
    simp only [Act.put, List.setIfInBounds_toArray, List.set_cons_zero, List.set_cons_succ]
    refine doneW (by kernel_rfl) fun wH7 HG => ?_
    obtain ⟨⟨hH, q1⟩, hs⟩ := HG
    have H7 := Lib.hid hH; clear hH
    have MH7_q1 := Lib.hid q1; clear q1
    have MH7_s := Lib.hid hs; clear hs
    try clear x0 x1 x2 x3
    have r0 := (cell_of_cells (k := 0) MH7_s.out).trans (rfl : _ = some (Value.slice none 0 0))
    have r1 := (cell_of_cells (k := 1) MH7_s.out).trans (rfl : _ = some (Value.slice none 0 0))
    have r2 := (cell_of_cells (k := 2) MH7_s.out).trans (rfl : _ = some (Value.slice none 0 0))
    have r3 := (cell_of_cells (k := 3) MH7_s.out).trans (rfl : _ = some (Value.slice none 0 0))
    go_wp2_with fail
    refine bodyPost_ret (v := .tuple #[.agg #[.slice none 0 0, .slice none 0 0, .slice none 0 0, .slice none 0 0], .bool false]) (by simp [results, Tryz.results55, go_sem, r0, r1, r2, r3]) rfl ⟨_, _, _, _, by rw [HRES.out], ?_, ?_, ?_, ?_, H7.out.below⟩
    · rw [HGN.out]; exact prs_nil _
    · rw [HGL2.out]; exact prs_nil _
    · rw [HWF.out]; exact Faces.nil _ _
    · rw [HGA.out]; exact Ints.nil _ _

set_option maxRecDepth 100000 in
theorem implProper (ns ls : List Nd) (xs : List Int) (vn vl v : Value) (w : World) (hn : Prs w vn ns) (hl : Prs w vl ls) (hv : Seq w v xs) :
    Calls Tryz.prog 19 #[.agg #[vn, vl], v] w (BoolIs (properB ns ls xs) w) := by
  have HG := Lib.hid (fun w h1 h2 h3 => implProperG ns ls xs vn vl v w h1 h2 h3)
  unfold GlassL at HG
  have HN := Lib.hid hn
  have HL := Lib.hid hl
  have HV := Lib.hid hv
  have H0 := Lib.hid (held_pair w vn vl 32)
  obtain ⟨A, c, rfl⟩ := prs_form2 hn
  obtain ⟨A2, c2, rfl⟩ := prs_form2 hl
  obtain ⟨A3, c3, rfl⟩ := seq_form2 hv
  clear hn hl hv
  generalize properB ns ls xs = res at *
  go_enter Tryz.func19, Tryz.ntmps19
  go_wp2_with fail
  refine (HG.out _ (HN.out.step H0.out.below) (HL.out.step H0.out.below) (HV.out.step H0.out.below)).mono ?_
  rintro e w1 ⟨v1, v2, v3, v4, rfl, g1, g2, g3, g4, hb⟩
  have H1 := Lib.hid (H0.out.step hb); clear hb
  obtain ⟨A5, c5, rfl⟩ := prs_form2 g1
  obtain ⟨A6, c6, rfl⟩ := prs_form2 g2
  obtain ⟨A7, c7, rfl⟩ := faces_form g3
  obtain ⟨A8, c8, rfl⟩ := ints_form g4
  clear g1 g2 g3 g4
  go_wp2_with fail
  go_ret
  exact ⟨rfl, H1.out.below.trans ((below_alloc _ _).mono H1.out.below.size)⟩

set_option maxRecDepth 100000 in
set_option maxHeartbeats 2000000 in
theorem specProper (ns ls : List Nd) (cs : List Int) (vn vl v : Value) (w : World) (hn : Prs w vn ns) (hl : Prs w vl ls) (hv : Seq w v cs) :
    Calls Tryz.prog 16 #[.agg #[vn, vl], v] w (BoolIs (properB ns ls cs) w) := by
  have HN := Lib.hid hn
  have HL := Lib.hid hl
  have HV := Lib.hid hv
  have HW := Lib.hid (fun w h1 h2 => specWhole ns ls vn vl w h1 h2)
  have HF := Lib.hid (fun w h1 h2 => specFacesL ns ls vn vl w h1 h2)
  have HC := Lib.hid (fun w h1 h2 h3 => specClashOf ns ls cs vn vl v w h1 h2 h3)
  have HL13 := Lib.hid (fun w h => specL13 (wF ns ls).length cs v w h)
  unfold BoolIs at HW HL13
  unfold FacesNew at HF
  unfold IntIs at HC
  have hdq : decide ((cs.length : Int) = ((wF ns ls).length : Int)) = decide (cs.length = (wF ns ls).length) := by
    by_cases e : cs.length = (wF ns ls).length
    · simp [e]
    · rw [decide_eq_false e, decide_eq_false (by omega)]
  rw [hdq] at HL13
  clear hdq
  have HLD := Lib.hid (show listB ns ls 0 5 cs = (wholeB ns ls && (decide (cs.length = (wF ns ls).length) && inR cs 0 5)) from rfl)
  have HR := Lib.hid (show properB ns ls cs = (listB ns ls 0 5 cs && decide (clashW ns ls cs < 0)) from rfl)
  have H0 := Lib.hid (held_pair w vn vl 32)
  obtain ⟨A, c, rfl⟩ := prs_form2 hn
  obtain ⟨A2, c2, rfl⟩ := prs_form2 hl
  obtain ⟨A3, c3, rfl⟩ := seq_form2 hv
  clear hn hl hv
  have h40 := wF_len (ns := ns) (ls := ls)
  generalize properB ns ls cs = res at *
  generalize clashW ns ls cs = cw at *
  generalize listB ns ls 0 5 cs = lb at *
  generalize (decide (cs.length = (wF ns ls).length) && inR cs 0 5) = b at *
  generalize wF ns ls = rs at *
  generalize wholeB ns ls = ok at *
  go_enter Tryz.func16, Tryz.ntmps16
  go_wp2_with fail
  refine (HW.out _ (HN.out.step H0.out.below) (HL.out.step H0.out.below)).mono ?_
  rintro e w1 ⟨rfl, hb⟩
  have H1 := Lib.hid (H0.out.step hb); clear hb H0
  cases ok
  · go_wp2_with fail
    go_ret
    exact ⟨ret_bool (by rw [HR.out, HLD.out]; rfl), H1.out.below⟩
  · obtain ⟨x0, x1, _⟩ := H1.out.1
    go_wp2_with fail
    refine (HF.out _ (HN.out.step H1.out.below) (HL.out.step H1.out.below)).mono ?_
    rintro e w2 ⟨vf, rfl, hf, hb⟩
    obtain ⟨a, c4, rfl⟩ := faces_form hf
    have H2 := Lib.hid (H1.out.step hb); clear hb hf x0 x1 H1
    go_wp2_with fail
    refine (HL13.out _ (HV.out.step H2.out.below)).mono ?_
    rintro e w3 ⟨rfl, hb⟩
    have H3 := Lib.hid (H2.out.step hb); clear hb H2
    cases b
    · go_wp2_with fail
      go_ret
      exact ⟨ret_bool (by rw [HR.out, HLD.out]; rfl), H3.out.below⟩
    · have HX := Lib.hid (show res = decide (cw < 0) from by rw [HR.out, HLD.out]; rfl)
      obtain ⟨x0, x1, _⟩ := H3.out.1
      go_wp2_with fail
      refine (HC.out _ (HN.out.step H3.out.below) (HL.out.step H3.out.below) (HV.out.step H3.out.below)).mono ?_
      rintro e w4 ⟨rfl, hb⟩
      have H4 := Lib.hid (H3.out.step hb); clear hb H3 x0 x1
      go_wp2_with fail
      go_ret
      exact ⟨ret_bool HX.out.symm, H4.out.below⟩
end Go.Proofs.YtfckgidilbjokaaGreat
