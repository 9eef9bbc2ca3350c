/-
  The program's SplitFields returns, for every line, what the model's SplitFields returns, and memory of its own at each call: the law FnExactSplitFields answers true. No condition.
-/
import Derived.Test.YtejjeihikmipdaaRows
import Derived.Test.YtejjeihikmipdaaSplS
import Derived.Test.YtejjeihikmipdaaStrs
import Derived.Test.YtejjeihikmipdaaBase
import Derived.WalkKit
import Derived.ProofKit
import Derived.OpenShut
import Derived.ShutString
namespace Go.Proofs.Ytejjeihikmipdaa.fnExactSplitFields
open Go.ChangeShapes Go.WideShapes Go.ChangeAt Go.RowKit
open Go.ChangeMaps (open_string shut_string)
set_option linter.unusedVariables false      -- a walk need not use every 'w<i>' (that an integer argument fits its kind)

theorem own : ownKnob Try.prog.godebug = none := by kernel_rfl

/-! ### STEP 1: THE WALK: the Go text returns true. 'Grown w w'': the world has at most new blocks (Derived/RowKit3.lean). Part the cases AHEAD of 'go_enter' where a test parts the walk; take each callee by a contract of your own. -/
theorem walk (a0 : ByteArray) (w0 : a0.size ≤ maxLen) (w : World) :
    Calls Try.prog 6 #[.string a0] w fun e w' => e = .returned (.bool true) ∧ Below w.heap.size w w' := by
  have hmax := w0
  unfold maxLen at hmax
  by_cases h1 : 1048576 < a0.size
  · go_enter Try.func6, Try.ntmps6
    go_wp2_with fail
    go_ret
    exact ⟨rfl, Below.refl _ _⟩
  · have hspec : ∀ w, Calls Try.prog 15 #[.string a0] w (SplitPost 9 a0 w.heap.size w) := fun w => by
      by_cases h2 : 600 < a0.size
      · exact specSplit_long a0 w w0 h2
      · exact specSplit_short a0 w (by omega)
    have himpl : ∀ w, Calls Try.prog 16 #[.string a0] w (SplitPost 9 a0 w.heap.size w) := fun w => by
      by_cases h2 : 600 < a0.size
      · exact implSplit_long a0 w w0 h2
      · exact implSplit_short a0 w (by omega)
    have HS := Lib.hid hspec; clear hspec
    have HI := Lib.hid himpl; clear himpl
    go_enter Try.func6, Try.ntmps6
    go_wp2_with fail
    refine (HS.out _).mono ?_
    rintro e w1 ⟨v0, fs, ok, rfl, hs0, hb1, hc0⟩
    have H0 := Lib.hid hs0; clear hs0
    have HB1 := Lib.hid hb1; clear hb1
    have HC := Lib.hid hc0
    have hn : fs.length ≤ 24 := by
      rcases hc0 with ⟨_, hl, rfl⟩ | ⟨_, _, rfl⟩
      · exact hl.2.2
      · exact Nat.zero_le _
    clear hc0
    go_wp2_with fail
    refine (HI.out _).mono ?_
    rintro e w2 ⟨v1, fs', ok', rfl, hs1, hb2, hc1⟩
    obtain ⟨rfl, rfl⟩ : ok' = ok ∧ fs' = fs := by
      rcases HC.out with ⟨a1, a2, a3⟩ | ⟨a1, a2, a3⟩ <;> rcases hc1 with ⟨b1, b2, b3⟩ | ⟨b1, b2, b3⟩
      · exact ⟨b1.trans a1.symm, b3.trans a3.symm⟩
      · exact absurd a2 b2
      · exact absurd b2 a2
      · exact ⟨b1.trans a1.symm, b3.trans a3.symm⟩
    clear hc1
    have hlt0 : ∀ k, v0.ownBlock = some k → k < w1.heap.size := fun k hk => (H0.out.own k hk).2
    have HLT := Lib.hid hlt0; clear hlt0
    have H0b := Lib.hid (H0.out.below hb2 (Nat.le_refl _)); clear H0
    have H1 := Lib.hid hs1; clear hs1
    have hz12 := hb2.size
    have hz01 := HB1.out.size
    have HB2 := Lib.hid (HB1.out.trans (hb2.mono hz01)); clear hb2 HB1
    go_wp2_with fail
    refine (eqStringS_yes H1.out H0b.out).mono ?_
    rintro e w3 ⟨rfl, n3, rfl⟩
    have HBd := Lib.hid (below_drewN HB2.out n3); clear HB2
    have hz2 : w.heap.size ≤ (w2.drewN n3).heap.size := HBd.out.size
    have hz2b : w1.heap.size ≤ (w2.drewN n3).heap.size := hz12
    have H1d := Lib.hid (H1.out.drewN n3); clear H1
    have H0d := Lib.hid (H0b.out.drewN n3); clear H0b
    generalize w2.drewN n3 = w3 at *
    clear hz12
    go_wp2_with fail
    refine (markStringS_any 1 H1d.out (by omega) (by omega)).mono ?_
    rintro e w4 ⟨rfl, hm4, hg4⟩
    have H0e := Lib.hid (H0d.out.apart H1d.out hg4 HLT.out (Nat.le_refl _))
    have HB4 := Lib.hid (HBd.out.grown hg4 hz2 (fun k hk => Nat.le_trans hz01 (H1d.out.own k hk).1)); clear HBd
    have hz4 := hg4.size
    have H1e := Lib.hid hm4; clear hm4 hg4 H0d H1d
    go_wp2_with fail
    refine (heldStringS_any 1 _ H1e.out (by omega) (by omega)).mono ?_
    rintro e w5 ⟨rfl, hb5⟩
    have H0f := Lib.hid (H0e.out.below hb5 (Nat.le_refl _)); clear H0e
    have H1f := Lib.hid (H1e.out.below hb5 (Nat.le_refl _)); clear H1e
    have hz5 := hb5.size
    have HB5 := Lib.hid (HB4.out.trans (hb5.mono (by omega))); clear hb5 HB4
    go_wp2_with fail
    refine (HI.out _).mono ?_
    rintro e w6 ⟨v2, fs2, ok2, rfl, hs2, hb6, hc2⟩
    obtain ⟨rfl, rfl⟩ : ok2 = ok' ∧ fs2 = fs' := by
      rcases HC.out with ⟨a1, a2, a3⟩ | ⟨a1, a2, a3⟩ <;> rcases hc2 with ⟨b1, b2, b3⟩ | ⟨b1, b2, b3⟩
      · exact ⟨b1.trans a1.symm, b3.trans a3.symm⟩
      · exact absurd a2 b2
      · exact absurd b2 a2
      · exact ⟨b1.trans a1.symm, b3.trans a3.symm⟩
    clear hc2
    have H0g := Lib.hid (H0f.out.below hb6 (Nat.le_refl _)); clear H0f
    have H1g := Lib.hid (H1f.out.below hb6 (Nat.le_refl _)); clear H1f
    have H2 := Lib.hid hs2; clear hs2
    have hz6 := hb6.size
    have HB6 := Lib.hid (HB5.out.trans (hb6.mono (by omega))); clear hb6 HB5
    go_wp2_with fail
    refine (eqStringS_yes H2.out H0g.out).mono ?_
    rintro e w7 ⟨rfl, n7, rfl⟩
    have HB7 := Lib.hid (below_drewN HB6.out n7); clear HB6
    have H1h := Lib.hid (H1g.out.drewN n7); clear H1g
    have hz7 : w.heap.size ≤ (w6.drewN n7).heap.size := HB7.out.size
    generalize w6.drewN n7 = w7 at *
    go_wp2_with fail
    refine (heldStringS_any 1 _ H1h.out (by omega) (by omega)).mono ?_
    rintro e w8 ⟨rfl, hb8⟩
    have HB8 := Lib.hid (HB7.out.trans (hb8.mono hz7)); clear hb8 HB7
    go_wp2_with fail
    go_ret
    exact ⟨rfl, HB8.out⟩

/-! ### THE ROW's STEP: WRITTEN OUT: LEAVE IT -/
set_option maxRecDepth 100000 in
theorem lifted (os : Os) (started : os.Started) (H : Type) (enc : TypeId × Value → H) :
    ReturnsInHanded {} Try.checked os 6 .any (Rows.fnExactSplitFieldsSpec.pre6 enc Try.prog Try.f6 Rows.fnExactSplitFieldsRow.domain false) (Rows.fnExactSplitFieldsSpec.post enc Try.prog Try.f6 false true false false) := by
  refine returnsInHanded_of_change (C := Try.checked) own started (by kernel_rfl) Try.func6
    (ChangeSpec.witness6 (enc := enc) (C := Try.checked) false ⟨#[], #[.string ByteArray.empty], []⟩ 8 (by kernel_rfl) (by kernel_rfl) (by kernel_rfl) (by kernel_rfl)) ?_
  intro W base args ds gs before hval0 hW hcnd _
  have hval : ∀ (j : Nat) t v, Try.f6.params[j]? = some t → args[j]? = some v → Value.okWide Try.prog W .any base t v := hval0
  have hW' := hW
  obtain ⟨p, q, hA0, hV, rfl, hfz, hnd⟩ := hW
  have hA : DataW.TrodAll enc Try.prog W 0 (fun _ => true) true Try.f6.params.toList args.toList ds p := hA0
  rw [Try.params6] at hA hval
  obtain ⟨v0, vs0, d0, ds0, p0, q0, hargs, rfl, rfl, h0, r0⟩ := trodAll_cons hA
  obtain ⟨rfl, rfl, rfl⟩ := trodAll_nil r0
  obtain rfl : args = #[v0] := by cases args; simp_all
  obtain ⟨rfl, rfl⟩ := trodVars_none hV
  obtain ⟨a0, rfl, rfl, rfl, w0⟩ := open_string Try.underlying9 (hval 0 9 v0 rfl rfl) h0
  clear hA0 hval0
  simp only [List.append_nil] at hW'
  refine (walk a0 w0 W).mono fun e W' ⟨he, hg⟩ => ?_
  subst he
  exact ⟨_, rfl, post_of_below (pa := []) (pv := []) hW' (fun _ _ _ => (trodAll_cons_mk (shut_bool Try.underlying4 _) trodAll_mk0)) (fun sp _ => (trodAll_cons_mk (shut_string Try.underlying9 w0) trodAll_mk0)) (fun _ _ => rfl) rfl
    hg (ok_one (by kernel_rfl) rfl (okWide_bool_mk Try.underlying4 _))⟩

theorem over : Rows.fnExactSplitFieldsRow.holds Try.pinned (OpenSpec.ofChange Rows.fnExactSplitFieldsSpec) :=
  OpenClaim.holds_of_wide 6 Try.f6 rfl rfl rfl rfl rfl rfl rfl ⟨rfl, rfl, rfl, rfl, rfl⟩ rfl rfl rfl rfl rfl (by kernel_rfl) Try.func6 (by kernel_rfl)
    (of_decide_eq_true (by kernel_rfl)) (by unfold Func.isWrapper; first | (rw [if_pos (by decide +kernel)]; kernel_rfl) | (rw [if_neg (by decide +kernel)]; exact ⟨rfl, rfl⟩))
    (fun os started H enc _ => lifted os started H enc)

/-- ████ THE STATEMENT ████ -/
theorem proved : Rows.FnExactSplitFieldsSaid :=
  over
#print axioms proved
end Go.Proofs.Ytejjeihikmipdaa.fnExactSplitFields
