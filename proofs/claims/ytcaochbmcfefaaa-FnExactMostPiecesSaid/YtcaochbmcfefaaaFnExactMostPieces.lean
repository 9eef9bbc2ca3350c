/-
  The program's MostPieces returns, for every two sheets, what the model's MostPieces returns: the law FnExactMostPieces answers true. No condition.
-/
import Derived.Test.YtcaochbmcfefaaaRows
import Derived.Test.YtcaochbmcfefaaaShe
import Derived.WalkKit
import Derived.ProofKit
import Derived.OpenShut
import Derived.ShutString
import Derived.ChangeOld
import Derived.Below
import Derived.Carry
import Derived.Lib.SmallJoins
namespace Go.Proofs.Ytcaochbmcfefaaa.fnExactMostPieces
open Go.ChangeShapes Go.WideShapes Go.ChangeAt Go.RowKit Go.Joins
open Go.ChangeMaps (open_string shut_string)
set_option linter.unusedVariables false
set_option linter.unusedSimpArgs false

theorem own : ownKnob Try.prog.godebug = none := by kernel_rfl
theorem laidOut : laidOutB Try.prog = true := by kernel_rfl
set_option maxRecDepth 100000
theorem walk (w : World) (a0_Width : Int) (w0_Width : (Lit.int .i64 a0_Width).wf = true) (a0_Height : Int) (w0_Height : (Lit.int .i64 a0_Height).wf = true) (a1_Width : Int) (w1_Width : (Lit.int .i64 a1_Width).wf = true) (a1_Height : Int) (w1_Height : (Lit.int .i64 a1_Height).wf = true) :
    Calls Try.prog 6 #[.agg #[.int .i64 a0_Width, .int .i64 a0_Height], .agg #[.int .i64 a1_Width, .int .i64 a1_Height]] w fun e w' => e = .returned (.bool true) ∧ Below w.heap.size w w' := by
  have H0 := Lib.hid (held2 w ⟨a0_Width, a0_Height⟩ ⟨a1_Width, a1_Height⟩ 23 23)
  have HT := Lib.hid (toSheet_any ⟨a0_Width, a0_Height⟩)
  have HU := Lib.hid (toSheet_any ⟨a1_Width, a1_Height⟩)
  have HS := Lib.hid (specMost ⟨a0_Width, a0_Height⟩ ⟨a1_Width, a1_Height⟩)
  have HI := Lib.hid (implMost ⟨a0_Width, a0_Height⟩ ⟨a1_Width, a1_Height⟩)
  generalize mostI ⟨a0_Width, a0_Height⟩ ⟨a1_Width, a1_Height⟩ = r at *
  unfold PairIs Nd.val at HT HU
  unfold Nd.val at HS HI
  simp only at H0 HT HU HS HI
  clear w0_Width w0_Height w1_Width w1_Height
  go_enter Try.func6, Try.ntmps6
  go_wp2_with fail
  refine regionD (S := fun W => Held _ W [(w.heap.size, 0, .int .i64 (a0_Width)), (w.heap.size, 1, .int .i64 (a0_Height)), (w.heap.size+1, 0, .int .i64 (a1_Width)), (w.heap.size+1, 1, .int .i64 (a1_Height))]) (by kernel_rfl) H0.out.drew ?_
  iterate 6 (refine takeT (v := ?_) rfl (by kernel_rfl) (by kernel_rfl) (by kernel_rfl) ?_ ?_; rotate_left; (first | (refine Or.inr ⟨by rfl, ?_⟩; with_reducible rfl) | (refine Or.inl ⟨by rfl, fun W hS => detRes_value (w' := W) ?_ hS⟩; obtain ⟨x0, x1, x2, x3, _⟩ := hS.1; go_simp; first | done | with_reducible rfl) | (refine Or.inl ⟨by rfl, fun W hS => ?_⟩; refine detRes_call (w' := W) (f := ?_) (args := ?_) ?_ ?_; rotate_left 2; (go_simp; (refine ⟨?_, ?_⟩ <;> with_reducible rfl)); (first | (with_reducible refine (HT.out _).mono ?_) | (with_reducible refine (HU.out _).mono ?_) | (with_reducible refine (HS.out _).mono ?_) | fail); (first | (rintro e wn ⟨rfl, hb⟩; refine ⟨?_, hS.step hb⟩; with_reducible rfl) | (rintro e wn ⟨rfl, rfl⟩; refine ⟨?_, hS⟩; with_reducible rfl) | fail)) | fail); (simp only [Act.put, List.setIfInBounds_toArray, List.set_cons_zero, List.set_cons_succ]))
  refine doneD (by kernel_rfl) fun wH1 HS => ?_
  have H1 := Lib.hid HS; clear HS
  try clear x0 x1 x2 x3
  obtain ⟨x0, x1, x2, x3, _⟩ := H1.out.1
  go_wp2_with fail
  refine regionD (S := fun W => Held _ W [(w.heap.size, 0, .int .i64 (a0_Width)), (w.heap.size, 1, .int .i64 (a0_Height)), (w.heap.size+1, 0, .int .i64 (a1_Width)), (w.heap.size+1, 1, .int .i64 (a1_Height))]) (by kernel_rfl) H1.out.drew ?_
  iterate 6 (refine takeT (v := ?_) rfl (by kernel_rfl) (by kernel_rfl) (by kernel_rfl) ?_ ?_; rotate_left; (first | (refine Or.inr ⟨by rfl, ?_⟩; with_reducible rfl) | (refine Or.inl ⟨by rfl, fun W hS => detRes_value (w' := W) ?_ hS⟩; obtain ⟨x0, x1, x2, x3, _⟩ := hS.1; go_simp; first | done | with_reducible rfl) | (refine Or.inl ⟨by rfl, fun W hS => ?_⟩; refine detRes_call (w' := W) (f := ?_) (args := ?_) ?_ ?_; rotate_left 2; (go_simp; (refine ⟨?_, ?_⟩ <;> with_reducible rfl)); (first | (with_reducible refine (HT.out _).mono ?_) | (with_reducible refine (HU.out _).mono ?_) | (with_reducible refine (HI.out _).mono ?_) | fail); (first | (rintro e wn ⟨rfl, hb⟩; refine ⟨?_, hS.step hb⟩; with_reducible rfl) | (rintro e wn ⟨rfl, rfl⟩; refine ⟨?_, hS⟩; with_reducible rfl) | fail)) | fail); (simp only [Act.put, List.setIfInBounds_toArray, List.set_cons_zero, List.set_cons_succ]))
  refine doneD (by kernel_rfl) fun wH2 HS => ?_
  have H2 := Lib.hid HS; clear HS
  try clear x0 x1 x2 x3
  obtain ⟨x0, x1, x2, x3, _⟩ := H2.out.1
  go_wp2_with fail
  go_ret
  exact ⟨rfl, H2.out.below⟩

set_option maxRecDepth 100000 in
theorem lifted (os : Os) (started : os.Started) (H : Type) (enc : TypeId × Value → H) :
    ReturnsInHanded {} Try.checked os 6 .any (Rows.fnExactMostPiecesSpec.pre6 enc Try.prog Try.f6 Rows.fnExactMostPiecesRow.domain false) (Rows.fnExactMostPiecesSpec.post enc Try.prog Try.f6 false true false false) := by
  refine returnsInHanded_of_change (C := Try.checked) own started (by kernel_rfl) Try.func6
    (ChangeSpec.witness6 (enc := enc) (C := Try.checked) false ⟨#[], #[.agg #[.int .i64 0, .int .i64 0], .agg #[.int .i64 0, .int .i64 0]], []⟩ 8 (by kernel_rfl) (by kernel_rfl) (by kernel_rfl) (by kernel_rfl)) ?_
  intro W base args ds gs before hval0 hW hcnd _
  have hval : ∀ (j : Nat) t v, Try.f6.params[j]? = some t → args[j]? = some v → Value.okWide Try.prog W .any base t v := hval0
  have hW' := hW
  obtain ⟨p, q, hA0, hV, rfl, hfz, hnd⟩ := hW
  have hA : DataW.TrodAll enc Try.prog W 0 (fun _ => true) true Try.f6.params.toList args.toList ds p := hA0
  rw [Try.params6] at hA hval
  obtain ⟨v0, vs0, d0, ds0, p0, q0, hargs, rfl, rfl, h0, r0⟩ := trodAll_cons hA
  obtain ⟨v1, vs1, d1, ds1, p1, q1, rfl, rfl, rfl, h1, r1⟩ := trodAll_cons r0
  obtain ⟨rfl, rfl, rfl⟩ := trodAll_nil r1
  obtain rfl : args = #[v0, v1] := by cases args; simp_all
  obtain ⟨rfl, rfl⟩ := trodVars_none hV
  have k0 := h0
  have lt0 : ∀ x ∈ p0, x.block < W.heap.size := by obtain ⟨m, hm⟩ := k0; exact DataW.trod_lt m _ _ _ hm
  have k1 := h1
  have lt1 : ∀ x ∈ p1, x.block < W.heap.size := by obtain ⟨m, hm⟩ := k1; exact DataW.trod_lt m _ _ _ hm
  obtain ⟨c00, c01, y00, y01, m0, rfl, rfl, rfl, g00, g01⟩ := open_agg2 Try.underlying23 (by kernel_rfl) (by kernel_rfl) (hval 0 23 v0 rfl rfl) h0
  obtain ⟨a0_Width, e00, rfl, w0_Width⟩ := DataW.trod_int Try.underlying3 g00
  obtain rfl : c00 = .int .i64 a0_Width := by simpa using e00
  obtain ⟨a0_Height, e01, rfl, w0_Height⟩ := DataW.trod_int Try.underlying3 g01
  obtain rfl : c01 = .int .i64 a0_Height := by simpa using e01
  obtain ⟨c10, c11, y10, y11, m1, rfl, rfl, rfl, g10, g11⟩ := open_agg2 Try.underlying23 (by kernel_rfl) (by kernel_rfl) (hval 1 23 v1 rfl rfl) h1
  obtain ⟨a1_Width, e10, rfl, w1_Width⟩ := DataW.trod_int Try.underlying3 g10
  obtain rfl : c10 = .int .i64 a1_Width := by simpa using e10
  obtain ⟨a1_Height, e11, rfl, w1_Height⟩ := DataW.trod_int Try.underlying3 g11
  obtain rfl : c11 = .int .i64 a1_Height := by simpa using e11
  clear hA0 hval0
  refine (walk W a0_Width w0_Width a0_Height w0_Height a1_Width w1_Width a1_Height w1_Height).mono fun e W' ⟨he, bel⟩ => ?_
  subst he
  exact ⟨_, rfl, _, _, _, [], _, [], hW', trodAll_mk1 (shut_bool Try.underlying4 _), trodAll_cons_mk (Below.trod laidOut (by kernel_rfl) (of_decide_eq_true (by kernel_rfl)) k0 bel lt0) (trodAll_cons_mk (Below.trod laidOut (by kernel_rfl) (of_decide_eq_true (by kernel_rfl)) k1 bel lt1) (trodAll_mk0)), rfl, bel.frame _, fun h => by cases h⟩

theorem over : Rows.fnExactMostPiecesRow.holds Try.pinned (OpenSpec.ofChange Rows.fnExactMostPiecesSpec) :=
  OpenClaim.holds_of_wide 6 Try.f6 rfl rfl rfl rfl rfl rfl rfl ⟨rfl, rfl, rfl, rfl, rfl⟩ rfl rfl rfl rfl rfl (by kernel_rfl) Try.func6 (by kernel_rfl)
    (of_decide_eq_true (by kernel_rfl)) (by unfold Func.isWrapper; first | (rw [if_pos (by decide +kernel)]; kernel_rfl) | (rw [if_neg (by decide +kernel)]; exact ⟨rfl, rfl⟩))
    (fun os started H enc _ => lifted os started H enc)

/-- THE STATEMENT. -/
theorem proved : Rows.FnExactMostPiecesSaid := over
#print axioms proved
end Go.Proofs.Ytcaochbmcfefaaa.fnExactMostPieces
