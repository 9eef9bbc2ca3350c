/-
  The program's FirstClear returns, for every sheet with flaws and every rectangle, the place and the bool that the model's FirstClear returns, and leaves the sheet as it is: the law FnExactFirstClear answers true. No condition.
-/
import Derived.Test.YtfppnaknnijobabRows
import Derived.Test.YtfppnaknnijobabFcw
import Derived.Test.YtfppnaknnijobabFlawO
import Derived.Test.YtfppnaknnijobabOpen
import Derived.Test.YtfppnaknnijobabDetV
import Derived.WalkKit
import Derived.ProofKit
import Derived.OpenShut
import Derived.ShutString
import Derived.ChangeOld
import Derived.Below
import Derived.Carry
import Derived.Lib.SmallJoins
namespace Go.Proofs.Ytfppnaknnijobab.fnExactFirstClear
open Go.ChangeShapes Go.WideShapes Go.ChangeAt Go.RowKit Go.Joins
open Go.ChangeMaps (open_string shut_string)
set_option linter.unusedVariables false
set_option linter.unusedSimpArgs false

theorem own : ownKnob Try.prog.godebug = none := by kernel_rfl
theorem laidOut : laidOutB Try.prog = true := by kernel_rfl
set_option maxRecDepth 100000
theorem walk (w : World) (a0_X : Int) (w0_X : (Lit.int .i64 a0_X).wf = true) (a0_Y : Int) (w0_Y : (Lit.int .i64 a0_Y).wf = true) (a0_Spots : Value) (xs0_Spots : List Nd) (w0_Spots : Prs w a0_Spots xs0_Spots) (b0_Spots : PrsIn xs0_Spots) (a1_Width : Int) (w1_Width : (Lit.int .i64 a1_Width).wf = true) (a1_Height : Int) (w1_Height : (Lit.int .i64 a1_Height).wf = true) :
    Calls Try.prog 11 #[.agg #[.int .i64 a0_X, .int .i64 a0_Y, a0_Spots], .agg #[.int .i64 a1_Width, .int .i64 a1_Height]] w fun e w' => e = .returned (.bool true) ∧ Below w.heap.size w w' := by
  have hll := w0_Spots.len
  obtain ⟨A, c, rfl⟩ := prs_form2 w0_Spots
  have HP := Lib.hid (show FlAt w (.agg #[.int .i64 a0_X, .int .i64 a0_Y, .slice A xs0_Spots.length c]) ⟨a0_X, a0_Y⟩ xs0_Spots from ⟨A, c, rfl, w0_Spots⟩)
  clear w0_Spots w0_X w0_Y w1_Width w1_Height
  have H0 := Lib.hid (((Held.none_ w).new2 w.heap.size rfl [.int .i64 a0_X, .int .i64 a0_Y, .slice A xs0_Spots.length c] 70).new2 (w.heap.size + 1) (by simp) [.int .i64 a1_Width, .int .i64 a1_Height] 56)
  simp only [newFs, List.cons_append, List.nil_append, List.append_nil] at H0
  have HZ := Lib.hid (fun v w h => szFlawed_any ⟨a0_X, a0_Y⟩ xs0_Spots v w h)
  have HTS := Lib.hid (toSheet_any ⟨a1_Width, a1_Height⟩)
  unfold PairIs Nd.val at HTS
  simp only at HTS
  go_enter Try.func11, Try.ntmps11
  obtain ⟨x0, x1, x2, x3, x4, _⟩ := H0.out.1
  go_wp2_with fail
  refine (HZ.out _ _ (HP.out.step H0.out.below)).mono ?_
  rintro e w1 ⟨q, rfl, hq, hb⟩
  have H1 := Lib.hid (H0.out.step hb); clear hb x0 x1 x2 x3 x4
  obtain ⟨x0, x1, x2, x3, x4, _⟩ := H1.out.1
  rcases hq with hq | ⟨hq, hq1⟩
  · go_wp2_with fail
    go_ret
    exact ⟨rfl, H1.out.below⟩
  clear HZ
  have HS := Lib.hid (fun v w (hv : FlAt w v ⟨a0_X, a0_Y⟩ xs0_Spots) => (show Calls Try.prog 52 #[v, .agg #[.int .i64 a1_Width, .int .i64 a1_Height]] w (NdOk (fclR ⟨a0_X, a0_Y⟩ ⟨a1_Width, a1_Height⟩ xs0_Spots) w) by
    obtain ⟨A1, c1, rfl, k⟩ := hv; exact specFirst ⟨a0_X, a0_Y⟩ xs0_Spots _ ⟨a1_Width, a1_Height⟩ w k))
  have HI := Lib.hid (fun v w (hv : FlAt w v ⟨a0_X, a0_Y⟩ xs0_Spots) => (show Calls Try.prog 53 #[v, .agg #[.int .i64 a1_Width, .int .i64 a1_Height]] w (NdOk (fclR ⟨a0_X, a0_Y⟩ ⟨a1_Width, a1_Height⟩ xs0_Spots) w) by
    obtain ⟨A1, c1, rfl, k⟩ := hv; exact implFirst ⟨a0_X, a0_Y⟩ xs0_Spots _ ⟨a1_Width, a1_Height⟩ w k b0_Spots))
  generalize fclR ⟨a0_X, a0_Y⟩ ⟨a1_Width, a1_Height⟩ xs0_Spots = r at *
  obtain ⟨⟨rx, ry⟩, rb⟩ := r
  unfold NdOk Nd.val at HS HI
  simp only at HS HI
  have HT := Lib.hid (fun v w hv => toFlawed_at ⟨a0_X, a0_Y⟩ xs0_Spots v w hv hq1)
  have HT0 := Lib.hid (fun v w hv => toFlawed_q0 ⟨a0_X, a0_Y⟩ xs0_Spots v w hv hq1)
  have HTB := Lib.hid (fun v w b hb hv => toFlawed_q ⟨a0_X, a0_Y⟩ xs0_Spots v w b hb hv hq1)
  have HEQ := Lib.hid (fun v u w hv hu => eqFlawed_at ⟨a0_X, a0_Y⟩ xs0_Spots v u w hv hu)
  have HEN := Lib.hid (fun w => eqNode_yes ⟨rx, ry⟩ w)
  unfold BoolIs Nd.val at HEN
  simp only at HEN
  go_wp2_with fail
  refine regionW (fun W => Held _ W [(w.heap.size + 1, 0, .int .i64 (a1_Width)), (w.heap.size + 1, 0 + 1, .int .i64 (a1_Height)), (w.heap.size, 0, .int .i64 (a0_X)), (w.heap.size, 0 + 1, .int .i64 (a0_Y)), (w.heap.size, 0 + 1 + 1, .slice A xs0_Spots.length c)]) (by kernel_rfl) H1.out.drew ?_
  refine takeW (i := 0) (v := ?_) (Stable.held _ _) rfl (by kernel_rfl) (by kernel_rfl) (by kernel_rfl) (fun _ _ _ h => h) ?_ ?_
  rotate_left
  · first | (refine Or.inl ⟨by rfl, fun W hS => detR_value (w' := W) ?_ (Below.refl _ _)⟩; have hH := hS; obtain ⟨x0, x1, x2, x3, x4, _⟩ := hH.1; go_simp; first | done | with_reducible rfl) | fail
  simp only [Act.put, List.setIfInBounds_toArray, List.set_cons_zero, List.set_cons_succ]
  refine takeW (i := 2) (v := ?_) (Stable.held _ _) rfl (by kernel_rfl) (by kernel_rfl) (by kernel_rfl) (fun _ _ _ h => h) ?_ ?_
  rotate_left
  · first | (refine Or.inl ⟨by rfl, fun W hS => detR_value (w' := W) ?_ (Below.refl _ _)⟩; have hH := hS; obtain ⟨x0, x1, x2, x3, x4, _⟩ := hH.1; go_simp; first | done | with_reducible rfl) | fail
  simp only [Act.put, List.setIfInBounds_toArray, List.set_cons_zero, List.set_cons_succ]
  refine freeOr (i := 1) (j := 8) (by kernel_rfl) ?_ ?_
  · skip
    refine freeOp (i := 1) (fun v W => FlQ (fun _ => True) ⟨a0_X, a0_Y⟩ xs0_Spots v W) (Stable.held _ _) (fun v => stable_flq (fun _ => True) ⟨a0_X, a0_Y⟩ xs0_Spots v) rfl (by rfl) (fun W hS => ?_) (fun v hex => ?_)
    · have hH := hS; obtain ⟨x0, x1, x2, x3, x4, _⟩ := hH.1; refine freeR_call (w' := W) (f := ?_) (args := ?_) ?_ ?_; rotate_left 2; (go_simp; (refine ⟨?_, ?_⟩ <;> with_reducible rfl)); exact HT0.out _ _ (HP.out.step hH.below)
    obtain ⟨WX, hex⟩ := hex
    obtain ⟨as1, cs1, rfl, -⟩ := hex
    try clear hex
    try clear WX
    simp only [Act.put, List.setIfInBounds_toArray, List.set_cons_zero, List.set_cons_succ]
    refine takeW (i := 3) (v := ?_) (Stable.and (Stable.held _ _) (stable_flq (fun _ => True) ⟨a0_X, a0_Y⟩ xs0_Spots (.agg #[.int .i64 a0_X, .int .i64 a0_Y, .slice as1 xs0_Spots.length cs1]))) rfl (by kernel_rfl) (by kernel_rfl) (by kernel_rfl) (fun _ _ _ h => h) ?_ ?_
    rotate_left
    · first | (refine Or.inl ⟨by rfl, fun W hS => ?_⟩; obtain ⟨hH, r1⟩ := hS; refine detR_call (w' := W) (f := ?_) (args := ?_) ?_ ?_; rotate_left 2; (go_simp; (refine ⟨?_, ?_⟩ <;> with_reducible rfl)); (first | (with_reducible refine (HTS.out _).mono ?_) | fail); (first | (rintro e wn ⟨rfl, hb⟩; refine ⟨?_, hb⟩; with_reducible rfl) | (rintro e wn ⟨rfl, rfl⟩; refine ⟨?_, Below.refl _ _⟩; with_reducible rfl) | fail)) | fail
    simp only [Act.put, List.setIfInBounds_toArray, List.set_cons_zero, List.set_cons_succ]
    refine takeW (i := 4) (v := ?_) (Stable.and (Stable.held _ _) (stable_flq (fun _ => True) ⟨a0_X, a0_Y⟩ xs0_Spots (.agg #[.int .i64 a0_X, .int .i64 a0_Y, .slice as1 xs0_Spots.length cs1]))) rfl (by kernel_rfl) (by kernel_rfl) (by kernel_rfl) (fun _ _ _ h => h) ?_ ?_
    rotate_left
    · first | (refine Or.inl ⟨by rfl, fun W hS => ?_⟩; obtain ⟨hH, r1⟩ := hS; refine detR_call (w' := W) (f := ?_) (args := ?_) ?_ ?_; rotate_left 2; (go_simp; (refine ⟨?_, ?_⟩ <;> with_reducible rfl)); (first | (with_reducible refine (HS.out _ _ (FlQ.at_ r1)).mono ?_) | fail); (first | (rintro e wn ⟨rfl, hb⟩; refine ⟨?_, hb⟩; with_reducible rfl) | (rintro e wn ⟨rfl, rfl⟩; refine ⟨?_, Below.refl _ _⟩; with_reducible rfl) | fail)) | fail
    simp only [Act.put, List.setIfInBounds_toArray, List.set_cons_zero, List.set_cons_succ]
    refine takeW (i := 5) (v := ?_) (Stable.and (Stable.held _ _) (stable_flq (fun _ => True) ⟨a0_X, a0_Y⟩ xs0_Spots (.agg #[.int .i64 a0_X, .int .i64 a0_Y, .slice as1 xs0_Spots.length cs1]))) rfl (by kernel_rfl) (by kernel_rfl) (by kernel_rfl) (fun _ _ _ h => h) ?_ ?_
    rotate_left
    · first | (refine Or.inl ⟨by rfl, fun W hS => detR_value (w' := W) ?_ (Below.refl _ _)⟩; obtain ⟨hH, r1⟩ := hS; obtain ⟨x0, x1, x2, x3, x4, _⟩ := hH.1; go_simp; first | done | with_reducible rfl) | fail
    simp only [Act.put, List.setIfInBounds_toArray, List.set_cons_zero, List.set_cons_succ]
    refine takeW (i := 6) (v := ?_) (Stable.and (Stable.held _ _) (stable_flq (fun _ => True) ⟨a0_X, a0_Y⟩ xs0_Spots (.agg #[.int .i64 a0_X, .int .i64 a0_Y, .slice as1 xs0_Spots.length cs1]))) rfl (by kernel_rfl) (by kernel_rfl) (by kernel_rfl) (fun _ _ _ h => h) ?_ ?_
    rotate_left
    · first | (refine Or.inl ⟨by rfl, fun W hS => detR_value (w' := W) ?_ (Below.refl _ _)⟩; obtain ⟨hH, r1⟩ := hS; obtain ⟨x0, x1, x2, x3, x4, _⟩ := hH.1; go_simp; first | done | with_reducible rfl) | fail
    simp only [Act.put, List.setIfInBounds_toArray, List.set_cons_zero, List.set_cons_succ]
    refine takeW (i := 7) (v := ?_) (Stable.and (Stable.held _ _) (stable_flq (fun _ => True) ⟨a0_X, a0_Y⟩ xs0_Spots (.agg #[.int .i64 a0_X, .int .i64 a0_Y, .slice as1 xs0_Spots.length cs1]))) rfl (by kernel_rfl) (by kernel_rfl) (by kernel_rfl) (fun _ _ _ h => h) ?_ ?_
    rotate_left
    · first | (refine Or.inl ⟨by rfl, fun W hS => detR_value (w' := W) ?_ (Below.refl _ _)⟩; obtain ⟨hH, r1⟩ := hS; obtain ⟨x0, x1, x2, x3, x4, _⟩ := hH.1; go_simp; first | done | with_reducible rfl) | fail
    simp only [Act.put, List.setIfInBounds_toArray, List.set_cons_zero, List.set_cons_succ]
    refine freeX (i := 8) (fun v W => NwA xs0_Spots.length (w.heap.size + 2) (as1) v W) (Stable.and (Stable.held _ _) (stable_flq (fun _ => True) ⟨a0_X, a0_Y⟩ xs0_Spots (.agg #[.int .i64 a0_X, .int .i64 a0_Y, .slice as1 xs0_Spots.length cs1]))) (fun v => stable_nwA xs0_Spots.length (w.heap.size + 2) (as1) v) rfl (by kernel_rfl) (by rfl) (fun W hS => ?_) (fun v hex => ?_)
    · obtain ⟨hH, r1⟩ := hS; obtain ⟨x0, x1, x2, x3, x4, _⟩ := hH.1; exact freeR_nwA (by go_simp <;> with_reducible rfl) (by have := hH.2.1.1; omega) (FlQ.low r1)
    obtain ⟨WX, hex⟩ := hex
    obtain ⟨b8, rfl, -⟩ := hex
    try clear hex
    try clear WX
    simp only [Act.put, List.setIfInBounds_toArray, List.set_cons_zero, List.set_cons_succ]
    refine storeK (i := 9) (b := b8) #[.int .i64 rx, .int .i64 ry] (Stable.and (Stable.and (Stable.held _ _) (stable_flq (fun _ => True) ⟨a0_X, a0_Y⟩ xs0_Spots (.agg #[.int .i64 a0_X, .int .i64 a0_Y, .slice as1 xs0_Spots.length cs1]))) (stable_nwA xs0_Spots.length (w.heap.size + 2) (as1) (.pointer (some ⟨b8, 0, none⟩)))) (fun W hS => by obtain ⟨⟨hH, r1⟩, r8⟩ := hS; exact (NwA.parts r8).2.1) (fun W hS => by obtain ⟨⟨hH, r1⟩, r8⟩ := hS; exact ⟨⟨hH.setRowAt (by have := (NwA.parts r8).1; simp; omega) (by have := (NwA.parts r8).1; omega) _, FlQ.setRow r1 (NwA.parts r8).2.2 _⟩, NwA.setRow r8 rfl⟩) rfl (by kernel_rfl) (by rfl) rfl (by rfl) (by rfl) rfl (by kernel_rfl) (by simp [Value.oneCell']) ?_
    simp only [Act.put, List.setIfInBounds_toArray, List.set_cons_zero, List.set_cons_succ]
    refine takeW (i := 10) (v := ?_) (Stable.and (Stable.and (Stable.and (Stable.held _ _) (stable_flq (fun _ => True) ⟨a0_X, a0_Y⟩ xs0_Spots (.agg #[.int .i64 a0_X, .int .i64 a0_Y, .slice as1 xs0_Spots.length cs1]))) (stable_nwA xs0_Spots.length (w.heap.size + 2) (as1) (.pointer (some ⟨b8, 0, none⟩)))) (stable_blkIs _ _ _)) rfl (by kernel_rfl) (by kernel_rfl) (by kernel_rfl) (fun _ _ _ h => h) ?_ ?_
    rotate_left
    · first | (refine Or.inl ⟨by rfl, fun W hS => detR_value (w' := W) ?_ (Below.refl _ _)⟩; obtain ⟨⟨⟨hH, r1⟩, r8⟩, hs⟩ := hS; obtain ⟨x0, x1, x2, x3, x4, _⟩ := hH.1; go_simp; first | done | with_reducible rfl) | fail
    simp only [Act.put, List.setIfInBounds_toArray, List.set_cons_zero, List.set_cons_succ]
    refine doneW (by kernel_rfl) fun wH4 HG => ?_
    obtain ⟨⟨⟨hH, r1⟩, r8⟩, hs⟩ := HG
    have H4 := Lib.hid hH; clear hH
    have MH4_o1 := Lib.hid r1; clear r1
    have MH4_o8 := Lib.hid r8; clear r8
    have MH4_s := Lib.hid hs; clear hs
    try clear x0 x1 x2 x3 x4
    have hs := MH4_s.out
    have H5 := Lib.hid (held_plus H4.out (gs := [(b8, 0, .int .i64 rx), (b8, 1, .int .i64 ry)]) ⟨(cell_of_cells (k := 0) hs).trans rfl, (cell_of_cells (k := 1) hs).trans rfl, trivial⟩ ⟨lt_of_block hs, lt_of_block hs, trivial⟩)
    clear hs MH4_s MH4_o1 MH4_o8 H4
    obtain ⟨x0, x1, x2, x3, x4, x5, x6, _⟩ := H5.out.1
    go_wp2_with fail
    refine (HT.out _ _ (HP.out.step H5.out.below)).mono ?_
    rintro e w6 ⟨v6, rfl, hm, hb⟩
    have H6 := Lib.hid (H5.out.step hb)
    obtain ⟨B1, d1, rfl, k1⟩ := hm
    have M6 := Lib.hid (show FlAt _ (.agg #[.int .i64 a0_X, .int .i64 a0_Y, .slice B1 xs0_Spots.length d1]) ⟨a0_X, a0_Y⟩ xs0_Spots from ⟨B1, d1, rfl, k1⟩); clear k1 hb x0 x1 x2 x3 x4 x5 x6
    obtain ⟨x0, x1, x2, x3, x4, x5, x6, _⟩ := H6.out.1
    obtain ⟨y0, y1, y2, y3, y4, y5, y6, _⟩ := H6.out.2.1
    have H7 := Lib.hid (H6.out.new2 w6.heap.size rfl [.int .i64 a0_X, .int .i64 a0_Y, .slice B1 xs0_Spots.length d1] 75)
    simp only [newFs, List.cons_append, List.nil_append, List.append_nil] at H7
    have R7 := Lib.hid (M6.out.step ((Below.refl _ _).alloc (Nat.le_refl _) (.cells #[.int .i64 a0_X, .int .i64 a0_Y, .slice B1 xs0_Spots.length d1] 75)))
    go_wp2_with fail
    clear x0 x1 x2 x3 x4 x5 x6 y0 y1 y2 y3 y4 y5 y6
    obtain ⟨x0, x1, x2, x3, x4, x5, x6, x7, x8, x9, _⟩ := H7.out.1
    have HBH8 := Lib.hid H7.out.2.1
    refine regionW (fun W => Held _ W [(w6.heap.size, 0, .int .i64 (a0_X)), (w6.heap.size, 0 + 1, .int .i64 (a0_Y)), (w6.heap.size, 0 + 1 + 1, .slice B1 xs0_Spots.length d1), (w.heap.size + 1, 0, .int .i64 (a1_Width)), (w.heap.size + 1, 0 + 1, .int .i64 (a1_Height)), (w.heap.size, 0, .int .i64 (a0_X)), (w.heap.size, 0 + 1, .int .i64 (a0_Y)), (w.heap.size, 0 + 1 + 1, .slice A xs0_Spots.length c), (b8, 0, .int .i64 (rx)), (b8, 1, .int .i64 (ry))]) (by kernel_rfl) (Held.start H7.out.1 H7.out.2.1).drew ?_
    refine takeW (i := 0) (v := ?_) (Stable.held _ _) rfl (by kernel_rfl) (by kernel_rfl) (by kernel_rfl) (fun _ _ _ h => h) ?_ ?_
    rotate_left
    · first | (refine Or.inl ⟨by rfl, fun W hS => detR_value (w' := W) ?_ (Below.refl _ _)⟩; obtain ⟨x0, x1, x2, x3, x4, x5, x6, x7, x8, x9, _⟩ := hS.1; go_simp; first | done | with_reducible rfl) | fail
    simp only [Act.put, List.setIfInBounds_toArray, List.set_cons_zero, List.set_cons_succ]
    refine takeW (i := 1) (v := ?_) (Stable.held _ _) rfl (by kernel_rfl) (by kernel_rfl) (by kernel_rfl) (fun _ _ _ h => h) ?_ ?_
    rotate_left
    · first | (refine Or.inl ⟨by rfl, fun W hS => detR_value (w' := W) ?_ (Below.refl _ _)⟩; obtain ⟨x0, x1, x2, x3, x4, x5, x6, x7, x8, x9, _⟩ := hS.1; go_simp; first | done | with_reducible rfl) | fail
    simp only [Act.put, List.setIfInBounds_toArray, List.set_cons_zero, List.set_cons_succ]
    refine takeW (i := 2) (v := ?_) (Stable.held _ _) rfl (by kernel_rfl) (by kernel_rfl) (by kernel_rfl) (fun _ _ _ h => h) ?_ ?_
    rotate_left
    · first | (refine Or.inl ⟨by rfl, fun W hS => ?_⟩; have hH := H7.out.after hS; refine detR_call (w' := W) (f := ?_) (args := ?_) ?_ ?_; rotate_left 2; (go_simp; (refine ⟨?_, ?_⟩ <;> with_reducible rfl)); (first | (with_reducible refine (HTS.out _).mono ?_) | fail); (first | (rintro e wn ⟨rfl, hb⟩; refine ⟨?_, hb⟩; with_reducible rfl) | (rintro e wn ⟨rfl, rfl⟩; refine ⟨?_, Below.refl _ _⟩; with_reducible rfl) | fail)) | fail
    simp only [Act.put, List.setIfInBounds_toArray, List.set_cons_zero, List.set_cons_succ]
    refine takeW (i := 3) (v := ?_) (Stable.held _ _) rfl (by kernel_rfl) (by kernel_rfl) (by kernel_rfl) (fun _ _ _ h => h) ?_ ?_
    rotate_left
    · first | (refine Or.inl ⟨by rfl, fun W hS => ?_⟩; have hH := H7.out.after hS; refine detR_call (w' := W) (f := ?_) (args := ?_) ?_ ?_; rotate_left 2; (go_simp; (refine ⟨?_, ?_⟩ <;> with_reducible rfl)); (first | (with_reducible refine (HI.out _ _ (R7.out.step hS.below)).mono ?_) | fail); (first | (rintro e wn ⟨rfl, hb⟩; refine ⟨?_, hb⟩; with_reducible rfl) | (rintro e wn ⟨rfl, rfl⟩; refine ⟨?_, Below.refl _ _⟩; with_reducible rfl) | fail)) | fail
    simp only [Act.put, List.setIfInBounds_toArray, List.set_cons_zero, List.set_cons_succ]
    refine takeW (i := 4) (v := ?_) (Stable.held _ _) rfl (by kernel_rfl) (by kernel_rfl) (by kernel_rfl) (fun _ _ _ h => h) ?_ ?_
    rotate_left
    · first | (refine Or.inl ⟨by rfl, fun W hS => detR_value (w' := W) ?_ (Below.refl _ _)⟩; obtain ⟨x0, x1, x2, x3, x4, x5, x6, x7, x8, x9, _⟩ := hS.1; go_simp; first | done | with_reducible rfl) | fail
    simp only [Act.put, List.setIfInBounds_toArray, List.set_cons_zero, List.set_cons_succ]
    refine takeW (i := 5) (v := ?_) (Stable.held _ _) rfl (by kernel_rfl) (by kernel_rfl) (by kernel_rfl) (fun _ _ _ h => h) ?_ ?_
    rotate_left
    · first | (refine Or.inl ⟨by rfl, fun W hS => detR_value (w' := W) ?_ (Below.refl _ _)⟩; obtain ⟨x0, x1, x2, x3, x4, x5, x6, x7, x8, x9, _⟩ := hS.1; go_simp; first | done | with_reducible rfl) | fail
    simp only [Act.put, List.setIfInBounds_toArray, List.set_cons_zero, List.set_cons_succ]
    refine takeW (i := 6) (v := ?_) (Stable.held _ _) rfl (by kernel_rfl) (by kernel_rfl) (by kernel_rfl) (fun _ _ _ h => h) ?_ ?_
    rotate_left
    · first | (refine Or.inl ⟨by rfl, fun W hS => detR_value (w' := W) ?_ (Below.refl _ _)⟩; obtain ⟨x0, x1, x2, x3, x4, x5, x6, x7, x8, x9, _⟩ := hS.1; go_simp; first | done | with_reducible rfl) | fail
    simp only [Act.put, List.setIfInBounds_toArray, List.set_cons_zero, List.set_cons_succ]
    refine allocV (i := 7) 82 #[.int .i64 0, .int .i64 0] rfl (by kernel_rfl) (by rfl) (fun W => ?_) (fun vn => ?_)
    · go_simp; first | done | with_reducible rfl
    simp only [Act.put, List.setIfInBounds_toArray, List.set_cons_zero, List.set_cons_succ]
    refine storeV (i := 8) #[.int .i64 rx, .int .i64 ry] rfl (by kernel_rfl) (by rfl) rfl (by rfl) (by rfl) HBH8.out rfl (by kernel_rfl) (by simp [Value.oneCell']) ?_
    simp only [Act.put, List.setIfInBounds_toArray, List.set_cons_zero, List.set_cons_succ]
    refine takeW (i := 9) (v := ?_) (Stable.and (Stable.and (Stable.held _ _) (stable_newB _ _ _ _)) (stable_fullB _ _ _ _)) rfl (by kernel_rfl) (by kernel_rfl) (by kernel_rfl) (fun _ _ _ h => h) ?_ ?_
    rotate_left
    · first | (refine Or.inl ⟨by rfl, fun W hS => detR_value (w' := W) ?_ (Below.refl _ _)⟩; go_simp; first | done | with_reducible rfl) | fail
    simp only [Act.put, List.setIfInBounds_toArray, List.set_cons_zero, List.set_cons_succ]
    refine doneW (by kernel_rfl) fun wH8 HG => ?_
    obtain ⟨⟨hH, _⟩, bH8, rfl, hbn, hcn⟩ := HG
    have BWH8 := Lib.hid hH.2.2
    have H8 := Lib.hid (Held.joined H7.out hH hcn); clear hH hcn HBH8
    try clear x0 x1 x2 x3 x4 x5 x6 x7 x8 x9
    obtain ⟨x0, x1, x2, x3, x4, x5, x6, x7, x8, x9, x10, x11, _⟩ := H8.out.1
    go_wp2_with fail
    have R8 := Lib.hid (R7.out.step BWH8.out)
    refine (HEN.out _).mono ?_
    rintro e w9 ⟨rfl, hb⟩
    have H9 := Lib.hid (H8.out.step hb)
    have R9 := Lib.hid (R8.out.step hb)
    clear hb x0 x1 x2 x3 x4 x5 x6 x7 x8 x9 x10 x11
    obtain ⟨x0, x1, x2, x3, x4, x5, x6, x7, x8, x9, x10, x11, _⟩ := H9.out.1
    cases rb
    · go_wp2_with fail
      refine regionW (fun W => (Held _ W [(bH8, 0, .int .i64 (rx)), (bH8, 1, .int .i64 (ry)), (w6.heap.size, 0, .int .i64 (a0_X)), (w6.heap.size, 0 + 1, .int .i64 (a0_Y)), (w6.heap.size, 0 + 1 + 1, .slice B1 xs0_Spots.length d1), (w.heap.size + 1, 0, .int .i64 (a1_Width)), (w.heap.size + 1, 0 + 1, .int .i64 (a1_Height)), (w.heap.size, 0, .int .i64 (a0_X)), (w.heap.size, 0 + 1, .int .i64 (a0_Y)), (w.heap.size, 0 + 1 + 1, .slice A xs0_Spots.length c), (b8, 0, .int .i64 (rx)), (b8, 1, .int .i64 (ry))]) ∧ FlAt W (.agg #[.int .i64 a0_X, .int .i64 a0_Y, .slice B1 xs0_Spots.length d1]) ⟨a0_X, a0_Y⟩ xs0_Spots) (by kernel_rfl) ⟨H9.out.drew, (R9.out).step ((Below.refl _ _).drew)⟩ ?_
      refine takeW (i := 0) (v := ?_) (Stable.and (Stable.held _ _) (stable_fl (.agg #[.int .i64 a0_X, .int .i64 a0_Y, .slice B1 xs0_Spots.length d1]) ⟨a0_X, a0_Y⟩ xs0_Spots)) rfl (by kernel_rfl) (by kernel_rfl) (by kernel_rfl) (fun _ _ _ h => h) ?_ ?_
      rotate_left
      · first | (refine Or.inl ⟨by rfl, fun W hS => detR_value (w' := W) ?_ (Below.refl _ _)⟩; obtain ⟨hH, q1⟩ := hS; obtain ⟨x0, x1, x2, x3, x4, x5, x6, x7, x8, x9, x10, x11, _⟩ := hH.1; go_simp; first | done | with_reducible rfl) | fail
      simp only [Act.put, List.setIfInBounds_toArray, List.set_cons_zero, List.set_cons_succ]
      refine takeW (i := 1) (v := ?_) (Stable.and (Stable.held _ _) (stable_fl (.agg #[.int .i64 a0_X, .int .i64 a0_Y, .slice B1 xs0_Spots.length d1]) ⟨a0_X, a0_Y⟩ xs0_Spots)) rfl (by kernel_rfl) (by kernel_rfl) (by kernel_rfl) (fun _ _ _ h => h) ?_ ?_
      rotate_left
      · first | (refine Or.inl ⟨by rfl, fun W hS => detR_value (w' := W) ?_ (Below.refl _ _)⟩; obtain ⟨hH, q1⟩ := hS; obtain ⟨x0, x1, x2, x3, x4, x5, x6, x7, x8, x9, x10, x11, _⟩ := hH.1; go_simp; first | done | with_reducible rfl) | fail
      simp only [Act.put, List.setIfInBounds_toArray, List.set_cons_zero, List.set_cons_succ]
      refine freeW (i := 2) (fun v W => FlAt W v ⟨a0_X, a0_Y⟩ xs0_Spots) (Stable.and (Stable.held _ _) (stable_fl (.agg #[.int .i64 a0_X, .int .i64 a0_Y, .slice B1 xs0_Spots.length d1]) ⟨a0_X, a0_Y⟩ xs0_Spots)) (fun v => stable_fl v ⟨a0_X, a0_Y⟩ xs0_Spots) rfl (by kernel_rfl) (by rfl) (fun W hS => ?_) (fun v1 => ?_)
      · obtain ⟨hH, q1⟩ := hS; refine freeR_call (w' := W) (f := ?_) (args := ?_) ?_ ?_; rotate_left 2; (go_simp; (refine ⟨?_, ?_⟩ <;> with_reducible rfl)); refine (HT.out _ _ (HP.out.step hH.below)).mono ?_; rintro e wn ⟨v, rfl, hm, hb⟩; exact ⟨v, rfl, hm, hb⟩
      simp only [Act.put, List.setIfInBounds_toArray, List.set_cons_zero, List.set_cons_succ]
      refine takeW (i := 3) (v := ?_) (Stable.and (Stable.and (Stable.held _ _) (stable_fl (.agg #[.int .i64 a0_X, .int .i64 a0_Y, .slice B1 xs0_Spots.length d1]) ⟨a0_X, a0_Y⟩ xs0_Spots)) (stable_fl v1 ⟨a0_X, a0_Y⟩ xs0_Spots)) rfl (by kernel_rfl) (by kernel_rfl) (by kernel_rfl) (fun _ _ _ h => h) ?_ ?_
      rotate_left
      · first | (refine Or.inl ⟨by rfl, fun W hS => ?_⟩; obtain ⟨⟨hH, q1⟩, r1⟩ := hS; refine detR_call (w' := W) (f := ?_) (args := ?_) ?_ ?_; rotate_left 2; (go_simp; (refine ⟨?_, ?_⟩ <;> with_reducible rfl)); (first | (with_reducible refine (HEQ.out _ _ _ q1 r1).mono ?_) | fail); (first | (rintro e wn ⟨rfl, hb⟩; refine ⟨?_, hb⟩; with_reducible rfl) | (rintro e wn ⟨rfl, rfl⟩; refine ⟨?_, Below.refl _ _⟩; with_reducible rfl) | fail)) | fail
      simp only [Act.put, List.setIfInBounds_toArray, List.set_cons_zero, List.set_cons_succ]
      refine takeW (i := 4) (v := ?_) (Stable.and (Stable.and (Stable.held _ _) (stable_fl (.agg #[.int .i64 a0_X, .int .i64 a0_Y, .slice B1 xs0_Spots.length d1]) ⟨a0_X, a0_Y⟩ xs0_Spots)) (stable_fl v1 ⟨a0_X, a0_Y⟩ xs0_Spots)) rfl (by kernel_rfl) (by kernel_rfl) (by kernel_rfl) (fun _ _ _ h => h) ?_ ?_
      rotate_left
      · first | (refine Or.inl ⟨by rfl, fun W hS => detR_value (w' := W) ?_ (Below.refl _ _)⟩; obtain ⟨⟨hH, q1⟩, r1⟩ := hS; obtain ⟨x0, x1, x2, x3, x4, x5, x6, x7, x8, x9, x10, x11, _⟩ := hH.1; go_simp; first | done | with_reducible rfl) | fail
      simp only [Act.put, List.setIfInBounds_toArray, List.set_cons_zero, List.set_cons_succ]
      refine doneW (by kernel_rfl) fun wH11 HG => ?_
      obtain ⟨⟨hH, q1⟩, r1⟩ := HG
      have H11 := Lib.hid hH; clear hH
      have MH11_q1 := Lib.hid q1; clear q1
      have MH11_1 := Lib.hid r1; clear r1
      try clear x0 x1 x2 x3 x4 x5 x6 x7 x8 x9 x10 x11
      obtain ⟨x0, x1, x2, x3, x4, x5, x6, x7, x8, x9, x10, x11, _⟩ := H11.out.1
      go_wp2_with fail
      go_ret
      exact ⟨rfl, H11.out.below⟩
    · go_wp2_with fail
      refine regionW (fun W => (Held _ W [(bH8, 0, .int .i64 (rx)), (bH8, 1, .int .i64 (ry)), (w6.heap.size, 0, .int .i64 (a0_X)), (w6.heap.size, 0 + 1, .int .i64 (a0_Y)), (w6.heap.size, 0 + 1 + 1, .slice B1 xs0_Spots.length d1), (w.heap.size + 1, 0, .int .i64 (a1_Width)), (w.heap.size + 1, 0 + 1, .int .i64 (a1_Height)), (w.heap.size, 0, .int .i64 (a0_X)), (w.heap.size, 0 + 1, .int .i64 (a0_Y)), (w.heap.size, 0 + 1 + 1, .slice A xs0_Spots.length c), (b8, 0, .int .i64 (rx)), (b8, 1, .int .i64 (ry))]) ∧ FlAt W (.agg #[.int .i64 a0_X, .int .i64 a0_Y, .slice B1 xs0_Spots.length d1]) ⟨a0_X, a0_Y⟩ xs0_Spots) (by kernel_rfl) ⟨H9.out.drew, (R9.out).step ((Below.refl _ _).drew)⟩ ?_
      refine takeW (i := 0) (v := ?_) (Stable.and (Stable.held _ _) (stable_fl (.agg #[.int .i64 a0_X, .int .i64 a0_Y, .slice B1 xs0_Spots.length d1]) ⟨a0_X, a0_Y⟩ xs0_Spots)) rfl (by kernel_rfl) (by kernel_rfl) (by kernel_rfl) (fun _ _ _ h => h) ?_ ?_
      rotate_left
      · first | (refine Or.inl ⟨by rfl, fun W hS => detR_value (w' := W) ?_ (Below.refl _ _)⟩; obtain ⟨hH, q1⟩ := hS; obtain ⟨x0, x1, x2, x3, x4, x5, x6, x7, x8, x9, x10, x11, _⟩ := hH.1; go_simp; first | done | with_reducible rfl) | fail
      simp only [Act.put, List.setIfInBounds_toArray, List.set_cons_zero, List.set_cons_succ]
      refine takeW (i := 1) (v := ?_) (Stable.and (Stable.held _ _) (stable_fl (.agg #[.int .i64 a0_X, .int .i64 a0_Y, .slice B1 xs0_Spots.length d1]) ⟨a0_X, a0_Y⟩ xs0_Spots)) rfl (by kernel_rfl) (by kernel_rfl) (by kernel_rfl) (fun _ _ _ h => h) ?_ ?_
      rotate_left
      · first | (refine Or.inl ⟨by rfl, fun W hS => detR_value (w' := W) ?_ (Below.refl _ _)⟩; obtain ⟨hH, q1⟩ := hS; obtain ⟨x0, x1, x2, x3, x4, x5, x6, x7, x8, x9, x10, x11, _⟩ := hH.1; go_simp; first | done | with_reducible rfl) | fail
      simp only [Act.put, List.setIfInBounds_toArray, List.set_cons_zero, List.set_cons_succ]
      refine freeW (i := 2) (fun v W => FlAt W v ⟨a0_X, a0_Y⟩ xs0_Spots) (Stable.and (Stable.held _ _) (stable_fl (.agg #[.int .i64 a0_X, .int .i64 a0_Y, .slice B1 xs0_Spots.length d1]) ⟨a0_X, a0_Y⟩ xs0_Spots)) (fun v => stable_fl v ⟨a0_X, a0_Y⟩ xs0_Spots) rfl (by kernel_rfl) (by rfl) (fun W hS => ?_) (fun v1 => ?_)
      · obtain ⟨hH, q1⟩ := hS; refine freeR_call (w' := W) (f := ?_) (args := ?_) ?_ ?_; rotate_left 2; (go_simp; (refine ⟨?_, ?_⟩ <;> with_reducible rfl)); refine (HT.out _ _ (HP.out.step hH.below)).mono ?_; rintro e wn ⟨v, rfl, hm, hb⟩; exact ⟨v, rfl, hm, hb⟩
      simp only [Act.put, List.setIfInBounds_toArray, List.set_cons_zero, List.set_cons_succ]
      refine takeW (i := 3) (v := ?_) (Stable.and (Stable.and (Stable.held _ _) (stable_fl (.agg #[.int .i64 a0_X, .int .i64 a0_Y, .slice B1 xs0_Spots.length d1]) ⟨a0_X, a0_Y⟩ xs0_Spots)) (stable_fl v1 ⟨a0_X, a0_Y⟩ xs0_Spots)) rfl (by kernel_rfl) (by kernel_rfl) (by kernel_rfl) (fun _ _ _ h => h) ?_ ?_
      rotate_left
      · first | (refine Or.inl ⟨by rfl, fun W hS => ?_⟩; obtain ⟨⟨hH, q1⟩, r1⟩ := hS; refine detR_call (w' := W) (f := ?_) (args := ?_) ?_ ?_; rotate_left 2; (go_simp; (refine ⟨?_, ?_⟩ <;> with_reducible rfl)); (first | (with_reducible refine (HEQ.out _ _ _ q1 r1).mono ?_) | fail); (first | (rintro e wn ⟨rfl, hb⟩; refine ⟨?_, hb⟩; with_reducible rfl) | (rintro e wn ⟨rfl, rfl⟩; refine ⟨?_, Below.refl _ _⟩; with_reducible rfl) | fail)) | fail
      simp only [Act.put, List.setIfInBounds_toArray, List.set_cons_zero, List.set_cons_succ]
      refine takeW (i := 4) (v := ?_) (Stable.and (Stable.and (Stable.held _ _) (stable_fl (.agg #[.int .i64 a0_X, .int .i64 a0_Y, .slice B1 xs0_Spots.length d1]) ⟨a0_X, a0_Y⟩ xs0_Spots)) (stable_fl v1 ⟨a0_X, a0_Y⟩ xs0_Spots)) rfl (by kernel_rfl) (by kernel_rfl) (by kernel_rfl) (fun _ _ _ h => h) ?_ ?_
      rotate_left
      · first | (refine Or.inl ⟨by rfl, fun W hS => detR_value (w' := W) ?_ (Below.refl _ _)⟩; obtain ⟨⟨hH, q1⟩, r1⟩ := hS; obtain ⟨x0, x1, x2, x3, x4, x5, x6, x7, x8, x9, x10, x11, _⟩ := hH.1; go_simp; first | done | with_reducible rfl) | fail
      simp only [Act.put, List.setIfInBounds_toArray, List.set_cons_zero, List.set_cons_succ]
      refine doneW (by kernel_rfl) fun wH11 HG => ?_
      obtain ⟨⟨hH, q1⟩, r1⟩ := HG
      have H11 := Lib.hid hH; clear hH
      have MH11_q1 := Lib.hid q1; clear q1
      have MH11_1 := Lib.hid r1; clear r1
      try clear x0 x1 x2 x3 x4 x5 x6 x7 x8 x9 x10 x11
      obtain ⟨x0, x1, x2, x3, x4, x5, x6, x7, x8, x9, x10, x11, _⟩ := H11.out.1
      go_wp2_with fail
      go_ret
      exact ⟨rfl, H11.out.below⟩
  · skip
    refine freeOp (i := 8) (fun v W => NwA xs0_Spots.length (w.heap.size + 2) (none) v W) (Stable.held _ _) (fun v => stable_nwA xs0_Spots.length (w.heap.size + 2) (none) v) rfl (by rfl) (fun W hS => ?_) (fun v hex => ?_)
    · have hH := hS; obtain ⟨x0, x1, x2, x3, x4, _⟩ := hH.1; exact freeR_nwA (by go_simp <;> with_reducible rfl) (by have := hH.2.1.1; omega) (fun _ _ e ↦ by cases e)
    obtain ⟨WX, hex⟩ := hex
    obtain ⟨b8, rfl, -⟩ := hex
    try clear hex
    try clear WX
    simp only [Act.put, List.setIfInBounds_toArray, List.set_cons_zero, List.set_cons_succ]
    refine freeX (i := 1) (fun v W => FlQ (fun g => g ≠ b8) ⟨a0_X, a0_Y⟩ xs0_Spots v W) (Stable.and (Stable.held _ _) (stable_nwA xs0_Spots.length (w.heap.size + 2) (none) (.pointer (some ⟨b8, 0, none⟩)))) (fun v => stable_flq (fun g => g ≠ b8) ⟨a0_X, a0_Y⟩ xs0_Spots v) rfl (by kernel_rfl) (by rfl) (fun W hS => ?_) (fun v hex => ?_)
    · obtain ⟨hH, r8⟩ := hS; obtain ⟨x0, x1, x2, x3, x4, _⟩ := hH.1; refine freeR_call (w' := W) (f := ?_) (args := ?_) ?_ ?_; rotate_left 2; (go_simp; (refine ⟨?_, ?_⟩ <;> with_reducible rfl)); exact HTB.out _ _ b8 (NwA.lt r8) (HP.out.step hH.below)
    obtain ⟨WX, hex⟩ := hex
    obtain ⟨as1, cs1, rfl, -⟩ := hex
    try clear hex
    try clear WX
    simp only [Act.put, List.setIfInBounds_toArray, List.set_cons_zero, List.set_cons_succ]
    refine takeW (i := 3) (v := ?_) (Stable.and (Stable.and (Stable.held _ _) (stable_nwA xs0_Spots.length (w.heap.size + 2) (none) (.pointer (some ⟨b8, 0, none⟩)))) (stable_flq (fun g => g ≠ b8) ⟨a0_X, a0_Y⟩ xs0_Spots (.agg #[.int .i64 a0_X, .int .i64 a0_Y, .slice as1 xs0_Spots.length cs1]))) rfl (by kernel_rfl) (by kernel_rfl) (by kernel_rfl) (fun _ _ _ h => h) ?_ ?_
    rotate_left
    · first | (refine Or.inl ⟨by rfl, fun W hS => ?_⟩; obtain ⟨⟨hH, r8⟩, r1⟩ := hS; refine detR_call (w' := W) (f := ?_) (args := ?_) ?_ ?_; rotate_left 2; (go_simp; (refine ⟨?_, ?_⟩ <;> with_reducible rfl)); (first | (with_reducible refine (HTS.out _).mono ?_) | fail); (first | (rintro e wn ⟨rfl, hb⟩; refine ⟨?_, hb⟩; with_reducible rfl) | (rintro e wn ⟨rfl, rfl⟩; refine ⟨?_, Below.refl _ _⟩; with_reducible rfl) | fail)) | fail
    simp only [Act.put, List.setIfInBounds_toArray, List.set_cons_zero, List.set_cons_succ]
    refine takeW (i := 4) (v := ?_) (Stable.and (Stable.and (Stable.held _ _) (stable_nwA xs0_Spots.length (w.heap.size + 2) (none) (.pointer (some ⟨b8, 0, none⟩)))) (stable_flq (fun g => g ≠ b8) ⟨a0_X, a0_Y⟩ xs0_Spots (.agg #[.int .i64 a0_X, .int .i64 a0_Y, .slice as1 xs0_Spots.length cs1]))) rfl (by kernel_rfl) (by kernel_rfl) (by kernel_rfl) (fun _ _ _ h => h) ?_ ?_
    rotate_left
    · first | (refine Or.inl ⟨by rfl, fun W hS => ?_⟩; obtain ⟨⟨hH, r8⟩, r1⟩ := hS; refine detR_call (w' := W) (f := ?_) (args := ?_) ?_ ?_; rotate_left 2; (go_simp; (refine ⟨?_, ?_⟩ <;> with_reducible rfl)); (first | (with_reducible refine (HS.out _ _ (FlQ.at_ r1)).mono ?_) | fail); (first | (rintro e wn ⟨rfl, hb⟩; refine ⟨?_, hb⟩; with_reducible rfl) | (rintro e wn ⟨rfl, rfl⟩; refine ⟨?_, Below.refl _ _⟩; with_reducible rfl) | fail)) | fail
    simp only [Act.put, List.setIfInBounds_toArray, List.set_cons_zero, List.set_cons_succ]
    refine takeW (i := 5) (v := ?_) (Stable.and (Stable.and (Stable.held _ _) (stable_nwA xs0_Spots.length (w.heap.size + 2) (none) (.pointer (some ⟨b8, 0, none⟩)))) (stable_flq (fun g => g ≠ b8) ⟨a0_X, a0_Y⟩ xs0_Spots (.agg #[.int .i64 a0_X, .int .i64 a0_Y, .slice as1 xs0_Spots.length cs1]))) rfl (by kernel_rfl) (by kernel_rfl) (by kernel_rfl) (fun _ _ _ h => h) ?_ ?_
    rotate_left
    · first | (refine Or.inl ⟨by rfl, fun W hS => detR_value (w' := W) ?_ (Below.refl _ _)⟩; obtain ⟨⟨hH, r8⟩, r1⟩ := hS; obtain ⟨x0, x1, x2, x3, x4, _⟩ := hH.1; go_simp; first | done | with_reducible rfl) | fail
    simp only [Act.put, List.setIfInBounds_toArray, List.set_cons_zero, List.set_cons_succ]
    refine takeW (i := 6) (v := ?_) (Stable.and (Stable.and (Stable.held _ _) (stable_nwA xs0_Spots.length (w.heap.size + 2) (none) (.pointer (some ⟨b8, 0, none⟩)))) (stable_flq (fun g => g ≠ b8) ⟨a0_X, a0_Y⟩ xs0_Spots (.agg #[.int .i64 a0_X, .int .i64 a0_Y, .slice as1 xs0_Spots.length cs1]))) rfl (by kernel_rfl) (by kernel_rfl) (by kernel_rfl) (fun _ _ _ h => h) ?_ ?_
    rotate_left
    · first | (refine Or.inl ⟨by rfl, fun W hS => detR_value (w' := W) ?_ (Below.refl _ _)⟩; obtain ⟨⟨hH, r8⟩, r1⟩ := hS; obtain ⟨x0, x1, x2, x3, x4, _⟩ := hH.1; go_simp; first | done | with_reducible rfl) | fail
    simp only [Act.put, List.setIfInBounds_toArray, List.set_cons_zero, List.set_cons_succ]
    refine takeW (i := 7) (v := ?_) (Stable.and (Stable.and (Stable.held _ _) (stable_nwA xs0_Spots.length (w.heap.size + 2) (none) (.pointer (some ⟨b8, 0, none⟩)))) (stable_flq (fun g => g ≠ b8) ⟨a0_X, a0_Y⟩ xs0_Spots (.agg #[.int .i64 a0_X, .int .i64 a0_Y, .slice as1 xs0_Spots.length cs1]))) rfl (by kernel_rfl) (by kernel_rfl) (by kernel_rfl) (fun _ _ _ h => h) ?_ ?_
    rotate_left
    · first | (refine Or.inl ⟨by rfl, fun W hS => detR_value (w' := W) ?_ (Below.refl _ _)⟩; obtain ⟨⟨hH, r8⟩, r1⟩ := hS; obtain ⟨x0, x1, x2, x3, x4, _⟩ := hH.1; go_simp; first | done | with_reducible rfl) | fail
    simp only [Act.put, List.setIfInBounds_toArray, List.set_cons_zero, List.set_cons_succ]
    refine storeK (i := 9) (b := b8) #[.int .i64 rx, .int .i64 ry] (Stable.and (Stable.and (Stable.held _ _) (stable_nwA xs0_Spots.length (w.heap.size + 2) (none) (.pointer (some ⟨b8, 0, none⟩)))) (stable_flq (fun g => g ≠ b8) ⟨a0_X, a0_Y⟩ xs0_Spots (.agg #[.int .i64 a0_X, .int .i64 a0_Y, .slice as1 xs0_Spots.length cs1]))) (fun W hS => by obtain ⟨⟨hH, r8⟩, r1⟩ := hS; exact (NwA.parts r8).2.1) (fun W hS => by obtain ⟨⟨hH, r8⟩, r1⟩ := hS; exact ⟨⟨hH.setRowAt (by have := (NwA.parts r8).1; simp; omega) (by have := (NwA.parts r8).1; omega) _, NwA.setRow r8 rfl⟩, FlQ.setRow r1 (FlQ.apart r1) _⟩) rfl (by kernel_rfl) (by rfl) rfl (by rfl) (by rfl) rfl (by kernel_rfl) (by simp [Value.oneCell']) ?_
    simp only [Act.put, List.setIfInBounds_toArray, List.set_cons_zero, List.set_cons_succ]
    refine takeW (i := 10) (v := ?_) (Stable.and (Stable.and (Stable.and (Stable.held _ _) (stable_nwA xs0_Spots.length (w.heap.size + 2) (none) (.pointer (some ⟨b8, 0, none⟩)))) (stable_flq (fun g => g ≠ b8) ⟨a0_X, a0_Y⟩ xs0_Spots (.agg #[.int .i64 a0_X, .int .i64 a0_Y, .slice as1 xs0_Spots.length cs1]))) (stable_blkIs _ _ _)) rfl (by kernel_rfl) (by kernel_rfl) (by kernel_rfl) (fun _ _ _ h => h) ?_ ?_
    rotate_left
    · first | (refine Or.inl ⟨by rfl, fun W hS => detR_value (w' := W) ?_ (Below.refl _ _)⟩; obtain ⟨⟨⟨hH, r8⟩, r1⟩, hs⟩ := hS; obtain ⟨x0, x1, x2, x3, x4, _⟩ := hH.1; go_simp; first | done | with_reducible rfl) | fail
    simp only [Act.put, List.setIfInBounds_toArray, List.set_cons_zero, List.set_cons_succ]
    refine doneW (by kernel_rfl) fun wH4 HG => ?_
    obtain ⟨⟨⟨hH, r8⟩, r1⟩, hs⟩ := HG
    have H4 := Lib.hid hH; clear hH
    have MH4_o8 := Lib.hid r8; clear r8
    have MH4_o1 := Lib.hid r1; clear r1
    have MH4_s := Lib.hid hs; clear hs
    try clear x0 x1 x2 x3 x4
    have hs := MH4_s.out
    have H5 := Lib.hid (held_plus H4.out (gs := [(b8, 0, .int .i64 rx), (b8, 1, .int .i64 ry)]) ⟨(cell_of_cells (k := 0) hs).trans rfl, (cell_of_cells (k := 1) hs).trans rfl, trivial⟩ ⟨lt_of_block hs, lt_of_block hs, trivial⟩)
    clear hs MH4_s MH4_o1 MH4_o8 H4
    obtain ⟨x0, x1, x2, x3, x4, x5, x6, _⟩ := H5.out.1
    go_wp2_with fail
    refine (HT.out _ _ (HP.out.step H5.out.below)).mono ?_
    rintro e w6 ⟨v6, rfl, hm, hb⟩
    have H6 := Lib.hid (H5.out.step hb)
    obtain ⟨B1, d1, rfl, k1⟩ := hm
    have M6 := Lib.hid (show FlAt _ (.agg #[.int .i64 a0_X, .int .i64 a0_Y, .slice B1 xs0_Spots.length d1]) ⟨a0_X, a0_Y⟩ xs0_Spots from ⟨B1, d1, rfl, k1⟩); clear k1 hb x0 x1 x2 x3 x4 x5 x6
    obtain ⟨x0, x1, x2, x3, x4, x5, x6, _⟩ := H6.out.1
    obtain ⟨y0, y1, y2, y3, y4, y5, y6, _⟩ := H6.out.2.1
    have H7 := Lib.hid (H6.out.new2 w6.heap.size rfl [.int .i64 a0_X, .int .i64 a0_Y, .slice B1 xs0_Spots.length d1] 75)
    simp only [newFs, List.cons_append, List.nil_append, List.append_nil] at H7
    have R7 := Lib.hid (M6.out.step ((Below.refl _ _).alloc (Nat.le_refl _) (.cells #[.int .i64 a0_X, .int .i64 a0_Y, .slice B1 xs0_Spots.length d1] 75)))
    go_wp2_with fail
    clear x0 x1 x2 x3 x4 x5 x6 y0 y1 y2 y3 y4 y5 y6
    obtain ⟨x0, x1, x2, x3, x4, x5, x6, x7, x8, x9, _⟩ := H7.out.1
    have HBH8 := Lib.hid H7.out.2.1
    refine regionW (fun W => Held _ W [(w6.heap.size, 0, .int .i64 (a0_X)), (w6.heap.size, 0 + 1, .int .i64 (a0_Y)), (w6.heap.size, 0 + 1 + 1, .slice B1 xs0_Spots.length d1), (w.heap.size + 1, 0, .int .i64 (a1_Width)), (w.heap.size + 1, 0 + 1, .int .i64 (a1_Height)), (w.heap.size, 0, .int .i64 (a0_X)), (w.heap.size, 0 + 1, .int .i64 (a0_Y)), (w.heap.size, 0 + 1 + 1, .slice A xs0_Spots.length c), (b8, 0, .int .i64 (rx)), (b8, 1, .int .i64 (ry))]) (by kernel_rfl) (Held.start H7.out.1 H7.out.2.1).drew ?_
    refine takeW (i := 0) (v := ?_) (Stable.held _ _) rfl (by kernel_rfl) (by kernel_rfl) (by kernel_rfl) (fun _ _ _ h => h) ?_ ?_
    rotate_left
    · first | (refine Or.inl ⟨by rfl, fun W hS => detR_value (w' := W) ?_ (Below.refl _ _)⟩; obtain ⟨x0, x1, x2, x3, x4, x5, x6, x7, x8, x9, _⟩ := hS.1; go_simp; first | done | with_reducible rfl) | fail
    simp only [Act.put, List.setIfInBounds_toArray, List.set_cons_zero, List.set_cons_succ]
    refine takeW (i := 1) (v := ?_) (Stable.held _ _) rfl (by kernel_rfl) (by kernel_rfl) (by kernel_rfl) (fun _ _ _ h => h) ?_ ?_
    rotate_left
    · first | (refine Or.inl ⟨by rfl, fun W hS => detR_value (w' := W) ?_ (Below.refl _ _)⟩; obtain ⟨x0, x1, x2, x3, x4, x5, x6, x7, x8, x9, _⟩ := hS.1; go_simp; first | done | with_reducible rfl) | fail
    simp only [Act.put, List.setIfInBounds_toArray, List.set_cons_zero, List.set_cons_succ]
    refine takeW (i := 2) (v := ?_) (Stable.held _ _) rfl (by kernel_rfl) (by kernel_rfl) (by kernel_rfl) (fun _ _ _ h => h) ?_ ?_
    rotate_left
    · first | (refine Or.inl ⟨by rfl, fun W hS => ?_⟩; have hH := H7.out.after hS; refine detR_call (w' := W) (f := ?_) (args := ?_) ?_ ?_; rotate_left 2; (go_simp; (refine ⟨?_, ?_⟩ <;> with_reducible rfl)); (first | (with_reducible refine (HTS.out _).mono ?_) | fail); (first | (rintro e wn ⟨rfl, hb⟩; refine ⟨?_, hb⟩; with_reducible rfl) | (rintro e wn ⟨rfl, rfl⟩; refine ⟨?_, Below.refl _ _⟩; with_reducible rfl) | fail)) | fail
    simp only [Act.put, List.setIfInBounds_toArray, List.set_cons_zero, List.set_cons_succ]
    refine takeW (i := 3) (v := ?_) (Stable.held _ _) rfl (by kernel_rfl) (by kernel_rfl) (by kernel_rfl) (fun _ _ _ h => h) ?_ ?_
    rotate_left
    · first | (refine Or.inl ⟨by rfl, fun W hS => ?_⟩; have hH := H7.out.after hS; refine detR_call (w' := W) (f := ?_) (args := ?_) ?_ ?_; rotate_left 2; (go_simp; (refine ⟨?_, ?_⟩ <;> with_reducible rfl)); (first | (with_reducible refine (HI.out _ _ (R7.out.step hS.below)).mono ?_) | fail); (first | (rintro e wn ⟨rfl, hb⟩; refine ⟨?_, hb⟩; with_reducible rfl) | (rintro e wn ⟨rfl, rfl⟩; refine ⟨?_, Below.refl _ _⟩; with_reducible rfl) | fail)) | fail
    simp only [Act.put, List.setIfInBounds_toArray, List.set_cons_zero, List.set_cons_succ]
    refine takeW (i := 4) (v := ?_) (Stable.held _ _) rfl (by kernel_rfl) (by kernel_rfl) (by kernel_rfl) (fun _ _ _ h => h) ?_ ?_
    rotate_left
    · first | (refine Or.inl ⟨by rfl, fun W hS => detR_value (w' := W) ?_ (Below.refl _ _)⟩; obtain ⟨x0, x1, x2, x3, x4, x5, x6, x7, x8, x9, _⟩ := hS.1; go_simp; first | done | with_reducible rfl) | fail
    simp only [Act.put, List.setIfInBounds_toArray, List.set_cons_zero, List.set_cons_succ]
    refine takeW (i := 5) (v := ?_) (Stable.held _ _) rfl (by kernel_rfl) (by kernel_rfl) (by kernel_rfl) (fun _ _ _ h => h) ?_ ?_
    rotate_left
    · first | (refine Or.inl ⟨by rfl, fun W hS => detR_value (w' := W) ?_ (Below.refl _ _)⟩; obtain ⟨x0, x1, x2, x3, x4, x5, x6, x7, x8, x9, _⟩ := hS.1; go_simp; first | done | with_reducible rfl) | fail
    simp only [Act.put, List.setIfInBounds_toArray, List.set_cons_zero, List.set_cons_succ]
    refine takeW (i := 6) (v := ?_) (Stable.held _ _) rfl (by kernel_rfl) (by kernel_rfl) (by kernel_rfl) (fun _ _ _ h => h) ?_ ?_
    rotate_left
    · first | (refine Or.inl ⟨by rfl, fun W hS => detR_value (w' := W) ?_ (Below.refl _ _)⟩; obtain ⟨x0, x1, x2, x3, x4, x5, x6, x7, x8, x9, _⟩ := hS.1; go_simp; first | done | with_reducible rfl) | fail
    simp only [Act.put, List.setIfInBounds_toArray, List.set_cons_zero, List.set_cons_succ]
    refine allocV (i := 7) 82 #[.int .i64 0, .int .i64 0] rfl (by kernel_rfl) (by rfl) (fun W => ?_) (fun vn => ?_)
    · go_simp; first | done | with_reducible rfl
    simp only [Act.put, List.setIfInBounds_toArray, List.set_cons_zero, List.set_cons_succ]
    refine storeV (i := 8) #[.int .i64 rx, .int .i64 ry] rfl (by kernel_rfl) (by rfl) rfl (by rfl) (by rfl) HBH8.out rfl (by kernel_rfl) (by simp [Value.oneCell']) ?_
    simp only [Act.put, List.setIfInBounds_toArray, List.set_cons_zero, List.set_cons_succ]
    refine takeW (i := 9) (v := ?_) (Stable.and (Stable.and (Stable.held _ _) (stable_newB _ _ _ _)) (stable_fullB _ _ _ _)) rfl (by kernel_rfl) (by kernel_rfl) (by kernel_rfl) (fun _ _ _ h => h) ?_ ?_
    rotate_left
    · first | (refine Or.inl ⟨by rfl, fun W hS => detR_value (w' := W) ?_ (Below.refl _ _)⟩; go_simp; first | done | with_reducible rfl) | fail
    simp only [Act.put, List.setIfInBounds_toArray, List.set_cons_zero, List.set_cons_succ]
    refine doneW (by kernel_rfl) fun wH8 HG => ?_
    obtain ⟨⟨hH, _⟩, bH8, rfl, hbn, hcn⟩ := HG
    have BWH8 := Lib.hid hH.2.2
    have H8 := Lib.hid (Held.joined H7.out hH hcn); clear hH hcn HBH8
    try clear x0 x1 x2 x3 x4 x5 x6 x7 x8 x9
    obtain ⟨x0, x1, x2, x3, x4, x5, x6, x7, x8, x9, x10, x11, _⟩ := H8.out.1
    go_wp2_with fail
    have R8 := Lib.hid (R7.out.step BWH8.out)
    refine (HEN.out _).mono ?_
    rintro e w9 ⟨rfl, hb⟩
    have H9 := Lib.hid (H8.out.step hb)
    have R9 := Lib.hid (R8.out.step hb)
    clear hb x0 x1 x2 x3 x4 x5 x6 x7 x8 x9 x10 x11
    obtain ⟨x0, x1, x2, x3, x4, x5, x6, x7, x8, x9, x10, x11, _⟩ := H9.out.1
    cases rb
    · go_wp2_with fail
      refine regionW (fun W => (Held _ W [(bH8, 0, .int .i64 (rx)), (bH8, 1, .int .i64 (ry)), (w6.heap.size, 0, .int .i64 (a0_X)), (w6.heap.size, 0 + 1, .int .i64 (a0_Y)), (w6.heap.size, 0 + 1 + 1, .slice B1 xs0_Spots.length d1), (w.heap.size + 1, 0, .int .i64 (a1_Width)), (w.heap.size + 1, 0 + 1, .int .i64 (a1_Height)), (w.heap.size, 0, .int .i64 (a0_X)), (w.heap.size, 0 + 1, .int .i64 (a0_Y)), (w.heap.size, 0 + 1 + 1, .slice A xs0_Spots.length c), (b8, 0, .int .i64 (rx)), (b8, 1, .int .i64 (ry))]) ∧ FlAt W (.agg #[.int .i64 a0_X, .int .i64 a0_Y, .slice B1 xs0_Spots.length d1]) ⟨a0_X, a0_Y⟩ xs0_Spots) (by kernel_rfl) ⟨H9.out.drew, (R9.out).step ((Below.refl _ _).drew)⟩ ?_
      refine takeW (i := 0) (v := ?_) (Stable.and (Stable.held _ _) (stable_fl (.agg #[.int .i64 a0_X, .int .i64 a0_Y, .slice B1 xs0_Spots.length d1]) ⟨a0_X, a0_Y⟩ xs0_Spots)) rfl (by kernel_rfl) (by kernel_rfl) (by kernel_rfl) (fun _ _ _ h => h) ?_ ?_
      rotate_left
      · first | (refine Or.inl ⟨by rfl, fun W hS => detR_value (w' := W) ?_ (Below.refl _ _)⟩; obtain ⟨hH, q1⟩ := hS; obtain ⟨x0, x1, x2, x3, x4, x5, x6, x7, x8, x9, x10, x11, _⟩ := hH.1; go_simp; first | done | with_reducible rfl) | fail
      simp only [Act.put, List.setIfInBounds_toArray, List.set_cons_zero, List.set_cons_succ]
      refine takeW (i := 1) (v := ?_) (Stable.and (Stable.held _ _) (stable_fl (.agg #[.int .i64 a0_X, .int .i64 a0_Y, .slice B1 xs0_Spots.length d1]) ⟨a0_X, a0_Y⟩ xs0_Spots)) rfl (by kernel_rfl) (by kernel_rfl) (by kernel_rfl) (fun _ _ _ h => h) ?_ ?_
      rotate_left
      · first | (refine Or.inl ⟨by rfl, fun W hS => detR_value (w' := W) ?_ (Below.refl _ _)⟩; obtain ⟨hH, q1⟩ := hS; obtain ⟨x0, x1, x2, x3, x4, x5, x6, x7, x8, x9, x10, x11, _⟩ := hH.1; go_simp; first | done | with_reducible rfl) | fail
      simp only [Act.put, List.setIfInBounds_toArray, List.set_cons_zero, List.set_cons_succ]
      refine freeW (i := 2) (fun v W => FlAt W v ⟨a0_X, a0_Y⟩ xs0_Spots) (Stable.and (Stable.held _ _) (stable_fl (.agg #[.int .i64 a0_X, .int .i64 a0_Y, .slice B1 xs0_Spots.length d1]) ⟨a0_X, a0_Y⟩ xs0_Spots)) (fun v => stable_fl v ⟨a0_X, a0_Y⟩ xs0_Spots) rfl (by kernel_rfl) (by rfl) (fun W hS => ?_) (fun v1 => ?_)
      · obtain ⟨hH, q1⟩ := hS; refine freeR_call (w' := W) (f := ?_) (args := ?_) ?_ ?_; rotate_left 2; (go_simp; (refine ⟨?_, ?_⟩ <;> with_reducible rfl)); refine (HT.out _ _ (HP.out.step hH.below)).mono ?_; rintro e wn ⟨v, rfl, hm, hb⟩; exact ⟨v, rfl, hm, hb⟩
      simp only [Act.put, List.setIfInBounds_toArray, List.set_cons_zero, List.set_cons_succ]
      refine takeW (i := 3) (v := ?_) (Stable.and (Stable.and (Stable.held _ _) (stable_fl (.agg #[.int .i64 a0_X, .int .i64 a0_Y, .slice B1 xs0_Spots.length d1]) ⟨a0_X, a0_Y⟩ xs0_Spots)) (stable_fl v1 ⟨a0_X, a0_Y⟩ xs0_Spots)) rfl (by kernel_rfl) (by kernel_rfl) (by kernel_rfl) (fun _ _ _ h => h) ?_ ?_
      rotate_left
      · first | (refine Or.inl ⟨by rfl, fun W hS => ?_⟩; obtain ⟨⟨hH, q1⟩, r1⟩ := hS; refine detR_call (w' := W) (f := ?_) (args := ?_) ?_ ?_; rotate_left 2; (go_simp; (refine ⟨?_, ?_⟩ <;> with_reducible rfl)); (first | (with_reducible refine (HEQ.out _ _ _ q1 r1).mono ?_) | fail); (first | (rintro e wn ⟨rfl, hb⟩; refine ⟨?_, hb⟩; with_reducible rfl) | (rintro e wn ⟨rfl, rfl⟩; refine ⟨?_, Below.refl _ _⟩; with_reducible rfl) | fail)) | fail
      simp only [Act.put, List.setIfInBounds_toArray, List.set_cons_zero, List.set_cons_succ]
      refine takeW (i := 4) (v := ?_) (Stable.and (Stable.and (Stable.held _ _) (stable_fl (.agg #[.int .i64 a0_X, .int .i64 a0_Y, .slice B1 xs0_Spots.length d1]) ⟨a0_X, a0_Y⟩ xs0_Spots)) (stable_fl v1 ⟨a0_X, a0_Y⟩ xs0_Spots)) rfl (by kernel_rfl) (by kernel_rfl) (by kernel_rfl) (fun _ _ _ h => h) ?_ ?_
      rotate_left
      · first | (refine Or.inl ⟨by rfl, fun W hS => detR_value (w' := W) ?_ (Below.refl _ _)⟩; obtain ⟨⟨hH, q1⟩, r1⟩ := hS; obtain ⟨x0, x1, x2, x3, x4, x5, x6, x7, x8, x9, x10, x11, _⟩ := hH.1; go_simp; first | done | with_reducible rfl) | fail
      simp only [Act.put, List.setIfInBounds_toArray, List.set_cons_zero, List.set_cons_succ]
      refine doneW (by kernel_rfl) fun wH11 HG => ?_
      obtain ⟨⟨hH, q1⟩, r1⟩ := HG
      have H11 := Lib.hid hH; clear hH
      have MH11_q1 := Lib.hid q1; clear q1
      have MH11_1 := Lib.hid r1; clear r1
      try clear x0 x1 x2 x3 x4 x5 x6 x7 x8 x9 x10 x11
      obtain ⟨x0, x1, x2, x3, x4, x5, x6, x7, x8, x9, x10, x11, _⟩ := H11.out.1
      go_wp2_with fail
      go_ret
      exact ⟨rfl, H11.out.below⟩
    · go_wp2_with fail
      refine regionW (fun W => (Held _ W [(bH8, 0, .int .i64 (rx)), (bH8, 1, .int .i64 (ry)), (w6.heap.size, 0, .int .i64 (a0_X)), (w6.heap.size, 0 + 1, .int .i64 (a0_Y)), (w6.heap.size, 0 + 1 + 1, .slice B1 xs0_Spots.length d1), (w.heap.size + 1, 0, .int .i64 (a1_Width)), (w.heap.size + 1, 0 + 1, .int .i64 (a1_Height)), (w.heap.size, 0, .int .i64 (a0_X)), (w.heap.size, 0 + 1, .int .i64 (a0_Y)), (w.heap.size, 0 + 1 + 1, .slice A xs0_Spots.length c), (b8, 0, .int .i64 (rx)), (b8, 1, .int .i64 (ry))]) ∧ FlAt W (.agg #[.int .i64 a0_X, .int .i64 a0_Y, .slice B1 xs0_Spots.length d1]) ⟨a0_X, a0_Y⟩ xs0_Spots) (by kernel_rfl) ⟨H9.out.drew, (R9.out).step ((Below.refl _ _).drew)⟩ ?_
      refine takeW (i := 0) (v := ?_) (Stable.and (Stable.held _ _) (stable_fl (.agg #[.int .i64 a0_X, .int .i64 a0_Y, .slice B1 xs0_Spots.length d1]) ⟨a0_X, a0_Y⟩ xs0_Spots)) rfl (by kernel_rfl) (by kernel_rfl) (by kernel_rfl) (fun _ _ _ h => h) ?_ ?_
      rotate_left
      · first | (refine Or.inl ⟨by rfl, fun W hS => detR_value (w' := W) ?_ (Below.refl _ _)⟩; obtain ⟨hH, q1⟩ := hS; obtain ⟨x0, x1, x2, x3, x4, x5, x6, x7, x8, x9, x10, x11, _⟩ := hH.1; go_simp; first | done | with_reducible rfl) | fail
      simp only [Act.put, List.setIfInBounds_toArray, List.set_cons_zero, List.set_cons_succ]
      refine takeW (i := 1) (v := ?_) (Stable.and (Stable.held _ _) (stable_fl (.agg #[.int .i64 a0_X, .int .i64 a0_Y, .slice B1 xs0_Spots.length d1]) ⟨a0_X, a0_Y⟩ xs0_Spots)) rfl (by kernel_rfl) (by kernel_rfl) (by kernel_rfl) (fun _ _ _ h => h) ?_ ?_
      rotate_left
      · first | (refine Or.inl ⟨by rfl, fun W hS => detR_value (w' := W) ?_ (Below.refl _ _)⟩; obtain ⟨hH, q1⟩ := hS; obtain ⟨x0, x1, x2, x3, x4, x5, x6, x7, x8, x9, x10, x11, _⟩ := hH.1; go_simp; first | done | with_reducible rfl) | fail
      simp only [Act.put, List.setIfInBounds_toArray, List.set_cons_zero, List.set_cons_succ]
      refine freeW (i := 2) (fun v W => FlAt W v ⟨a0_X, a0_Y⟩ xs0_Spots) (Stable.and (Stable.held _ _) (stable_fl (.agg #[.int .i64 a0_X, .int .i64 a0_Y, .slice B1 xs0_Spots.length d1]) ⟨a0_X, a0_Y⟩ xs0_Spots)) (fun v => stable_fl v ⟨a0_X, a0_Y⟩ xs0_Spots) rfl (by kernel_rfl) (by rfl) (fun W hS => ?_) (fun v1 => ?_)
      · obtain ⟨hH, q1⟩ := hS; refine freeR_call (w' := W) (f := ?_) (args := ?_) ?_ ?_; rotate_left 2; (go_simp; (refine ⟨?_, ?_⟩ <;> with_reducible rfl)); refine (HT.out _ _ (HP.out.step hH.below)).mono ?_; rintro e wn ⟨v, rfl, hm, hb⟩; exact ⟨v, rfl, hm, hb⟩
      simp only [Act.put, List.setIfInBounds_toArray, List.set_cons_zero, List.set_cons_succ]
      refine takeW (i := 3) (v := ?_) (Stable.and (Stable.and (Stable.held _ _) (stable_fl (.agg #[.int .i64 a0_X, .int .i64 a0_Y, .slice B1 xs0_Spots.length d1]) ⟨a0_X, a0_Y⟩ xs0_Spots)) (stable_fl v1 ⟨a0_X, a0_Y⟩ xs0_Spots)) rfl (by kernel_rfl) (by kernel_rfl) (by kernel_rfl) (fun _ _ _ h => h) ?_ ?_
      rotate_left
      · first | (refine Or.inl ⟨by rfl, fun W hS => ?_⟩; obtain ⟨⟨hH, q1⟩, r1⟩ := hS; refine detR_call (w' := W) (f := ?_) (args := ?_) ?_ ?_; rotate_left 2; (go_simp; (refine ⟨?_, ?_⟩ <;> with_reducible rfl)); (first | (with_reducible refine (HEQ.out _ _ _ q1 r1).mono ?_) | fail); (first | (rintro e wn ⟨rfl, hb⟩; refine ⟨?_, hb⟩; with_reducible rfl) | (rintro e wn ⟨rfl, rfl⟩; refine ⟨?_, Below.refl _ _⟩; with_reducible rfl) | fail)) | fail
      simp only [Act.put, List.setIfInBounds_toArray, List.set_cons_zero, List.set_cons_succ]
      refine takeW (i := 4) (v := ?_) (Stable.and (Stable.and (Stable.held _ _) (stable_fl (.agg #[.int .i64 a0_X, .int .i64 a0_Y, .slice B1 xs0_Spots.length d1]) ⟨a0_X, a0_Y⟩ xs0_Spots)) (stable_fl v1 ⟨a0_X, a0_Y⟩ xs0_Spots)) rfl (by kernel_rfl) (by kernel_rfl) (by kernel_rfl) (fun _ _ _ h => h) ?_ ?_
      rotate_left
      · first | (refine Or.inl ⟨by rfl, fun W hS => detR_value (w' := W) ?_ (Below.refl _ _)⟩; obtain ⟨⟨hH, q1⟩, r1⟩ := hS; obtain ⟨x0, x1, x2, x3, x4, x5, x6, x7, x8, x9, x10, x11, _⟩ := hH.1; go_simp; first | done | with_reducible rfl) | fail
      simp only [Act.put, List.setIfInBounds_toArray, List.set_cons_zero, List.set_cons_succ]
      refine doneW (by kernel_rfl) fun wH11 HG => ?_
      obtain ⟨⟨hH, q1⟩, r1⟩ := HG
      have H11 := Lib.hid hH; clear hH
      have MH11_q1 := Lib.hid q1; clear q1
      have MH11_1 := Lib.hid r1; clear r1
      try clear x0 x1 x2 x3 x4 x5 x6 x7 x8 x9 x10 x11
      obtain ⟨x0, x1, x2, x3, x4, x5, x6, x7, x8, x9, x10, x11, _⟩ := H11.out.1
      go_wp2_with fail
      go_ret
      exact ⟨rfl, H11.out.below⟩

set_option maxRecDepth 100000 in
theorem lifted (os : Os) (started : os.Started) (H : Type) (enc : TypeId × Value → H) :
    ReturnsInHanded {} Try.checked os 11 .any (Rows.fnExactFirstClearSpec.pre6 enc Try.prog Try.f11 Rows.fnExactFirstClearRow.domain false) (Rows.fnExactFirstClearSpec.post enc Try.prog Try.f11 false true false false) := by
  refine returnsInHanded_of_change (C := Try.checked) own started (by kernel_rfl) Try.func11
    (ChangeSpec.witness6 (enc := enc) (C := Try.checked) false ⟨#[], #[.agg #[.int .i64 0, .int .i64 0, .slice none 0 0], .agg #[.int .i64 0, .int .i64 0]], []⟩ 8 (by kernel_rfl) (by kernel_rfl) (by kernel_rfl) (by kernel_rfl)) ?_
  intro W base args ds gs before hval0 hW hcnd _
  have hval : ∀ (j : Nat) t v, Try.f11.params[j]? = some t → args[j]? = some v → Value.okWide Try.prog W .any base t v := hval0
  have hW' := hW
  obtain ⟨p, q, hA0, hV, rfl, hfz, hnd⟩ := hW
  have hA : DataW.TrodAll enc Try.prog W 0 (fun _ => true) true Try.f11.params.toList args.toList ds p := hA0
  rw [Try.params11] at hA hval
  obtain ⟨v0, vs0, d0, ds0, p0, q0, hargs, rfl, rfl, h0, r0⟩ := trodAll_cons hA
  obtain ⟨v1, vs1, d1, ds1, p1, q1, rfl, rfl, rfl, h1, r1⟩ := trodAll_cons r0
  obtain ⟨rfl, rfl, rfl⟩ := trodAll_nil r1
  obtain rfl : args = #[v0, v1] := by cases args; simp_all
  obtain ⟨rfl, rfl⟩ := trodVars_none hV
  have k0 := h0
  have lt0 : ∀ x ∈ p0, x.block < W.heap.size := by obtain ⟨m, hm⟩ := k0; exact DataW.trod_lt m _ _ _ hm
  have k1 := h1
  have lt1 : ∀ x ∈ p1, x.block < W.heap.size := by obtain ⟨m, hm⟩ := k1; exact DataW.trod_lt m _ _ _ hm
  obtain ⟨a0_X, a0_Y, c0, y00, y01, m0, rfl, rfl, rfl, w0_X, w0_Y, g0⟩ := flaw_open Try.underlying70 rfl (by kernel_rfl) rfl (by kernel_rfl) (by kernel_rfl) Try.underlying56 (by kernel_rfl) Try.underlying3 Try.underlying3 (hval 0 70 v0 rfl rfl) h0
  obtain ⟨a0_Spots, xs0_Spots, e0_Spots, w0_Spots, b0_Spots⟩ := prs_openB Try.underlying68 Try.underlying80 (by kernel_rfl) (by kernel_rfl) Try.underlying3 Try.underlying3 g0
  obtain rfl : c0 = a0_Spots := by simpa using e0_Spots
  obtain ⟨c10, c11, y10, y11, m1, rfl, rfl, rfl, g10, g11⟩ := open_agg2 Try.underlying56 (by kernel_rfl) (by kernel_rfl) (hval 1 56 v1 rfl rfl) h1
  obtain ⟨a1_Width, e10, rfl, w1_Width⟩ := DataW.trod_int Try.underlying3 g10
  obtain rfl : c10 = .int .i64 a1_Width := by simpa using e10
  obtain ⟨a1_Height, e11, rfl, w1_Height⟩ := DataW.trod_int Try.underlying3 g11
  obtain rfl : c11 = .int .i64 a1_Height := by simpa using e11
  clear hA0 hval0
  refine (walk W a0_X w0_X a0_Y w0_Y _ xs0_Spots w0_Spots b0_Spots a1_Width w1_Width a1_Height w1_Height).mono fun e W' ⟨he, bel⟩ => ?_
  subst he
  exact ⟨_, rfl, _, _, _, [], _, [], hW', trodAll_mk1 (shut_bool Try.underlying4 _), trodAll_cons_mk (Below.trod laidOut (by kernel_rfl) (of_decide_eq_true (by kernel_rfl)) k0 bel lt0) (trodAll_cons_mk (Below.trod laidOut (by kernel_rfl) (of_decide_eq_true (by kernel_rfl)) k1 bel lt1) (trodAll_mk0)), rfl, bel.frame _, fun h => by cases h⟩

theorem over : Rows.fnExactFirstClearRow.holds Try.pinned (OpenSpec.ofChange Rows.fnExactFirstClearSpec) :=
  OpenClaim.holds_of_wide 11 Try.f11 rfl rfl rfl rfl rfl rfl rfl ⟨rfl, rfl, rfl, rfl, rfl⟩ rfl rfl rfl rfl rfl (by kernel_rfl) Try.func11 (by kernel_rfl)
    (of_decide_eq_true (by kernel_rfl)) (by unfold Func.isWrapper; first | (rw [if_pos (by decide +kernel)]; kernel_rfl) | (rw [if_neg (by decide +kernel)]; exact ⟨rfl, rfl⟩))
    (fun os started H enc _ => lifted os started H enc)

/-- THE STATEMENT. -/
theorem proved : Rows.FnExactFirstClearSaid := over
#print axioms proved
end Go.Proofs.Ytfppnaknnijobab.fnExactFirstClear
