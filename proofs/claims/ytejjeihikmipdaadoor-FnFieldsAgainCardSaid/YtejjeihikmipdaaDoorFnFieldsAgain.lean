/-
  For every slice of bytes the law FnFieldsAgain answers true: of the line drawn from it, the fields, joined by single spaces, have the same fields, or the line has no fields in order. The library's tables hold what their initialisers lay (the card ties them).
-/
import Derived.Test.YtejjeihikmipdaaDoorLaid
import Derived.Test.YtejjeihikmipdaaDoorSplS
import Derived.Test.YtejjeihikmipdaaDoorJoinP
import Derived.Test.YtejjeihikmipdaaDoorDrawS
import Derived.Test.YtejjeihikmipdaaDoorSame
import Derived.Test.YtejjeihikmipdaaDoorBig
namespace Go.Proofs.YtejjeihikmipdaaDoor.fnFieldsAgain
open Go.ChangeShapes Go.WideShapes Go.ChangeAt Go.RowKit
open Go.ChangeMaps (open_string shut_string)
set_option linter.unusedVariables false
set_option linter.unusedSimpArgs false

theorem own : ownKnob Tryd.prog.godebug = none := by kernel_rfl
theorem laidOut : laidOutB Tryd.prog = true := by kernel_rfl
/-- WHAT THE WALK IS TOLD OF A SLICE OF INTEGERS THAT CAME IN: it is nil; or it leads to a row of 'cap' cells, the numbers 'zs' (the first 'len' are its elements, the rest its spare room), each fitting its kind. -/
def IsRow (k : IntKind) (w : World) (a : Option Addr) (len cap : Nat) (zs : List Int) : Prop :=
  (a = none ∧ len = 0 ∧ cap = 0 ∧ zs = []) ∨
  ∃ x, a = some x ∧ len ≤ cap ∧ cap ≤ maxLen ∧ zs.length = cap ∧ (∀ i, i < zs.length → w.cell? (x.add i) = some (.int k (zs.getD i 0))) ∧ ∀ n ∈ zs, (Lit.int k n).wf = true

theorem itoa_m3 : Lib.itoa (-3) = [45, 51] := by
  have := Lib.itoa_neg 3 (by omega)
  rw [show (-((3 : Nat) : Int)) = -3 from rfl] at this
  rw [this, decDigits_small 3 (by omega)]
  decide
def joinB (ps : List ByteArray) : List UInt8 := joinL (ps.map fun f => f.data.toList)
theorem joinB_snoc (ps : List ByteArray) (f : ByteArray) : joinB (ps ++ [f]) = joinB ps ++ (f.data.toList ++ [32]) := by
  unfold joinB
  rw [List.map_append]
  exact joinL_snoc _ _
theorem app_data (a b : ByteArray) : (a ++ b).data.toList = a.data.toList ++ b.data.toList := by simp [ByteArray.data_append]
theorem joinB_fields (s : ByteArray) : joinB (fieldsOf s) = joinL (fieldsL s.data.toList) := by
  unfold joinB
  rw [fieldsOf_run, List.map_map]
  congr 1
  rw [show ((fun f : ByteArray => f.data.toList) ∘ mkB) = id from by funext l; simp [mkB]]
  simp
theorem field_size (s f : ByteArray) (h : f ∈ fieldsOf s) : f.size ≤ s.size := by
  have key : ∀ i, i ≤ s.size → ∀ f ∈ stF s i, f.size ≤ s.size := by
    intro i
    induction i with
    | zero => intro _ f hf; cases hf
    | succ i ih =>
      intro hi f hf
      unfold stF at hf
      split at hf
      · rcases List.mem_append.1 hf with hf | hf
        · exact ih (by omega) f hf
        · unfold fieldAt at hf
          split at hf
          · rw [List.mem_singleton] at hf; subst hf; rw [ByteArray.size_extract]; omega
          · cases hf
      · exact ih (by omega) f hf
  unfold fieldsOf at h
  rcases List.mem_append.1 h with h | h
  · exact key _ (Nat.le_refl _) f h
  · unfold fieldAt at h
    split at h
    · rw [List.mem_singleton] at h; subst h; rw [ByteArray.size_extract]; omega
    · cases h
theorem walk (a0 : Option Addr) (len0 cap0 : Nat) (z0 : List Int) (w : World) (w0 : IsRow .u8 w a0 len0 cap0 z0) (ht : Tab w) :
    Calls Tryd.prog 5 #[.slice a0 len0 cap0] w fun e w' => e = .returned (.bool true) ∧ Below w.heap.size w w' := by
  have HT := Lib.hid ht; clear ht
  have HY := Lib.hid (bytesAt_of w0); clear w0
  by_cases hbig : 1048576 < len0
  · go_enter Tryd.func5, Tryd.ntmps5
    go_wp2_with fail
    refine (big_yes hbig).mono ?_
    rintro e w' ⟨rfl, rfl⟩
    go_wp2_with fail
    go_ret
    exact ⟨rfl, Below.refl _ _⟩
  · go_enter Tryd.func5, Tryd.ntmps5
    go_wp2_with fail
    refine (big_no (by omega)).mono ?_
    rintro e w' ⟨rfl, rfl⟩
    go_wp2_with fail
    refine (drawSplitFields_any HY.out).mono ?_
    rintro e w1 ⟨s, hs, rfl, hb1⟩
    have HB1 := Lib.hid hb1; clear hb1
    have hspec : ∀ w, Calls Tryd.prog 17 #[.string s] w (SplitPost 9 s w.heap.size w) := fun w => by
      by_cases h2 : 600 < s.size
      · exact specSplit_long s w (by unfold maxLen; omega) h2
      · exact specSplit_short s w (by omega)
    have himpl : ∀ (s : ByteArray) w, s.size ≤ 1000000 → Calls Tryd.prog 16 #[.string s] w (SplitPost 9 s w.heap.size w) := fun s w hs => by
      by_cases h2 : 600 < s.size
      · exact implSplit_long s w (by unfold maxLen; omega) h2
      · exact implSplit_short s w (by omega)
    have HS := Lib.hid hspec; clear hspec
    have HI := Lib.hid himpl; clear himpl
    go_wp2_with fail
    refine (HI.out _ _ (by omega)).mono ?_
    rintro e w2 ⟨v, fs, ok, rfl, hst, hb2, hc⟩
    have HST := Lib.hid hst; clear hst
    have HB2 := Lib.hid (HB1.out.trans (hb2.mono HB1.out.size)); clear hb2
    have HC := Lib.hid hc; clear hc
    go_wp2_with fail
    refine (HS.out _).mono ?_
    rintro e w3 ⟨v', fs', ok', rfl, _, hb3, hc'⟩
    have hok : ok' = ok := by
      rcases HC.out with ⟨a1, a2, _⟩ | ⟨a1, a2, _⟩ <;> rcases hc' with ⟨b1, b2, _⟩ | ⟨b1, b2, _⟩
      · exact b1.trans a1.symm
      · exact absurd a2 b2
      · exact absurd b2 a2
      · exact b1.trans a1.symm
    subst hok
    clear hc'
    have HST3 := Lib.hid (HST.out.below hb3 (Nat.le_refl _)); clear HST
    have hz12 : w.heap.size ≤ w2.heap.size := HB2.out.size
    have HB3 := Lib.hid (HB2.out.trans (hb3.mono hz12)); clear hb3
    rcases HC.out with ⟨rfl, hok, hfs⟩ | ⟨rfl, hok, rfl⟩
    · have HOK := Lib.hid hok; clear hok
      have HFS := Lib.hid hfs; clear hfs
      have hn : fs.length ≤ 24 := by rw [HFS.out]; exact HOK.out.2.2
      have hsz : ∀ f ∈ fs, f.size ≤ 600 := fun f hf => by
        rw [HFS.out] at hf
        exact Nat.le_trans (field_size s f hf) HOK.out.1
      have HSZ := Lib.hid hsz; clear hsz
      clear HC
      obtain ⟨a, cap, rfl, ha⟩ := HST3.out.form'
      have HA := Lib.hid ha; clear ha
      go_wp2_with fail
      go_loop [8, 9] (fun t i => ∃ (k : Nat) (u : ByteArray), k ≤ fs.length ∧ i = .int .i64 k ∧ t = .string u ∧ u.size ≤ 601 * k ∧ u.data.toList = joinB (fs.take k)) (fun _ i => fs.length - (intOf i).toNat)
      case atStart => exact ⟨0, _, Nat.zero_le _, rfl, rfl, Nat.le_refl _, rfl⟩
      case round =>
        obtain ⟨k, u, hk, rfl, rfl, hu, hj⟩ := hrel
        have HJ := Lib.hid hj; clear hj
        by_cases hlt : k < fs.length
        · obtain ⟨g, rfl, _, _, hc, _⟩ := HA.out k hlt
          have hf6 : fs[k].size ≤ 600 := HSZ.out _ (List.getElem_mem hlt)
          have htk : fs.take (k + 1) = fs.take k ++ [fs[k]] := List.take_succ_eq_append_getElem hlt
          have HTK := Lib.hid htk; clear htk
          generalize fs[k] = f at *
          go_wp2_with fail
          refine ⟨⟨k + 1, u ++ f ++ ⟨#[32]⟩, by omega, by go_num, rfl, ?_, ?_⟩, by simp [intOf]; omega⟩
          · rw [size_app, size_app]
            show u.size + f.size + 1 ≤ _
            omega
          · rw [HTK.out, joinB_snoc, ← HJ.out, app_data, app_data]
            simp
        · have ek : fs.take k = fs := List.take_of_length_le (by omega)
          have hju : u.data.toList = joinL (fieldsL s.data.toList) := by rw [HJ.out, ek, HFS.out, joinB_fields]
          have HJU := Lib.hid hju; clear hju ek
          go_wp2_with fail
          refine (HI.out u _ (by omega)).mono ?_
          rintro e w4 ⟨v2, fs2, ok2, rfl, hst2, hb4, hc2⟩
          have HST4 := Lib.hid (HST3.out.below hb4 (Nat.le_refl _))
          have hz13 : w.heap.size ≤ w3.heap.size := HB3.out.size
          have HB4 := Lib.hid (HB3.out.trans (hb4.mono hz13)); clear hb4
          have HST2 := Lib.hid hst2; clear hst2
          by_cases hlong : 600 < u.size
          · clear hc2
            go_wp2_with fail
            go_ret
            exact ⟨rfl, HB4.out⟩
          · have hj2 := join_ok s u HOK.out HJU.out (by omega)
            rcases hc2 with ⟨rfl, _, hf2⟩ | ⟨_, hn2, _⟩
            · have he : fs2 = fs := by rw [hf2, hj2.2, HFS.out]
              clear hj2 hf2
              subst he
              go_wp2_with fail
              refine (sameTexts_yes HST4.out HST2.out).mono ?_
              rintro e w5 ⟨rfl, n5, rfl⟩
              have HB5 := Lib.hid (below_drewN HB4.out n5)
              generalize w4.drewN n5 = w5 at *
              go_wp2_with fail
              go_ret
              exact ⟨rfl, HB5.out⟩
            · exact absurd hj2.1 hn2
    · clear HC hok
      have HT3 := Lib.hid (tab_below HT.out HB3.out (tab_lt HT.out))
      have HI3 := Lib.hid itoa_m3
      obtain ⟨a, cap, rfl, _⟩ := HST3.out.form'
      go_wp2_with fail
      refine (implFormat _ _ (inI64_of (by omega) (by omega)) HT3.out).mono ?_
      rintro e w4 ⟨rfl, hb4⟩
      have hz13 : w.heap.size ≤ w3.heap.size := HB3.out.size
      have HB4 := Lib.hid (HB3.out.trans (hb4.mono hz13)); clear hb4
      rw [HI3.out]
      go_wp2_with fail
      go_ret
      exact ⟨rfl, HB4.out⟩

theorem contract (H : Type) (enc : TypeId × Value → H) (W : World) (base : Nat) (args : Array Value) (ds gs : List (DataW H)) (before : List MemPlace)
    (hval0 : ∀ (j : Nat) t v, Tryd.f5.params[j]? = some t → args[j]? = some v → Value.okWide Tryd.prog W .any base t v)
    (hW : DataW.Whole enc Tryd.prog Tryd.f5.params.toList Rows.fnFieldsAgainSpec.vars false W args.toList ds gs before) (hL : laidMetH Tryd.prog Rows.fnFieldsAgainRow.laid W) :
    Calls Tryd.prog 5 args W fun e W' => ∃ v, e = .returned v ∧ Rows.fnFieldsAgainSpec.post enc Tryd.prog Tryd.f5 false true false false W args v W' := by
  have hval : ∀ (j : Nat) t v, Tryd.f5.params[j]? = some t → args[j]? = some v → Value.okWide Tryd.prog W .any base t v := hval0
  have hW' := hW
  obtain ⟨p, q, hA0, hV, rfl, hfz, hnd⟩ := hW
  have hA : DataW.TrodAll enc Tryd.prog W 0 (fun _ => true) true Tryd.f5.params.toList args.toList ds p := hA0
  rw [Tryd.params5] at hA hval
  obtain ⟨v0, vs0, d0, ds0, p0, q0, hargs, rfl, rfl, h0, r0⟩ := trodAll_cons hA
  obtain ⟨rfl, rfl, rfl⟩ := trodAll_nil r0
  obtain rfl : args = #[v0] := by cases args; simp_all
  obtain ⟨rfl, rfl⟩ := trodVars_none hV
  obtain ⟨a0, len0, cap0, rfl⟩ := okWide_slice Tryd.underlying22 (hval 0 22 v0 rfl rfl)
  have k0 := h0
  have lt0 : ∀ x ∈ p0, x.block < W.heap.size := by obtain ⟨m, hm⟩ := k0; exact DataW.trod_lt m _ _ _ hm
  obtain ⟨z0, w0⟩ : ∃ zs, IsRow .u8 W a0 len0 cap0 zs := by
    obtain ⟨fuel, hf⟩ := h0
    rcases open_ints Tryd.underlying22 Tryd.underlying5 (by kernel_rfl) hf with ⟨hcs, _⟩ | ⟨x, l, c, zs, hcs, _, hl, hm, hz, _, hcell, hwz⟩
    · simp [Value.cells] at hcs
      obtain ⟨rfl, rfl, rfl⟩ := hcs
      exact ⟨[], .inl ⟨rfl, rfl, rfl, rfl⟩⟩
    · simp [Value.cells] at hcs
      obtain ⟨rfl, rfl, rfl⟩ := hcs
      exact ⟨zs, .inr ⟨_, rfl, hl, hm, by simpa using hz, hcell, hwz⟩⟩
  clear hA0 hval0
  refine (walk a0 len0 cap0 z0 W w0 (tab_of hL (by rfl))).mono fun e W' ⟨he, bel⟩ => ?_
  subst he
  exact ⟨_, rfl, _, _, _, [], _, [], hW', trodAll_mk1 (shut_bool Tryd.underlying4 _), (trodAll_cons_mk (Below.trod laidOut (by kernel_rfl) (of_decide_eq_true (by kernel_rfl)) k0 bel lt0) trodAll_mk0), rfl, bel.frame _, fun h => by cases h⟩

/-- A world for the witness: the settled one, the listed variables holding what their initialisers lay. -/
noncomputable def laidWorld (os : Os) : World :=
  { World.holding Tryd.prog os ⟨#[], #[], []⟩ with heap := setB (setB (setB ((World.holding Tryd.prog os ⟨#[], #[], []⟩).heap) 4 #[.int .u8 0, .int .u8 1, .int .u8 28, .int .u8 2, .int .u8 29, .int .u8 14, .int .u8 24, .int .u8 3, .int .u8 30, .int .u8 22, .int .u8 20, .int .u8 15, .int .u8 25, .int .u8 17, .int .u8 4, .int .u8 8, .int .u8 31, .int .u8 27, .int .u8 13, .int .u8 23, .int .u8 21, .int .u8 19, .int .u8 16, .int .u8 7, .int .u8 26, .int .u8 12, .int .u8 18, .int .u8 6, .int .u8 11, .int .u8 5, .int .u8 10, .int .u8 9]) 5 #[.int .u8 0, .int .u8 1, .int .u8 56, .int .u8 2, .int .u8 57, .int .u8 49, .int .u8 28, .int .u8 3, .int .u8 61, .int .u8 58, .int .u8 42, .int .u8 50, .int .u8 38, .int .u8 29, .int .u8 17, .int .u8 4, .int .u8 62, .int .u8 47, .int .u8 59, .int .u8 36, .int .u8 45, .int .u8 43, .int .u8 51, .int .u8 22, .int .u8 53, .int .u8 39, .int .u8 33, .int .u8 30, .int .u8 24, .int .u8 18, .int .u8 12, .int .u8 5, .int .u8 63, .int .u8 55, .int .u8 48, .int .u8 27, .int .u8 60, .int .u8 41, .int .u8 37, .int .u8 16, .int .u8 46, .int .u8 35, .int .u8 44, .int .u8 21, .int .u8 52, .int .u8 32, .int .u8 23, .int .u8 11, .int .u8 54, .int .u8 26, .int .u8 40, .int .u8 15, .int .u8 34, .int .u8 20, .int .u8 31, .int .u8 10, .int .u8 25, .int .u8 14, .int .u8 19, .int .u8 9, .int .u8 13, .int .u8 8, .int .u8 7, .int .u8 6]) 3 #[.int .u64 1, .int .u64 10, .int .u64 100, .int .u64 1000, .int .u64 10000, .int .u64 100000, .int .u64 1000000, .int .u64 10000000, .int .u64 100000000, .int .u64 1000000000, .int .u64 10000000000, .int .u64 100000000000, .int .u64 1000000000000, .int .u64 10000000000000, .int .u64 100000000000000, .int .u64 1000000000000000, .int .u64 10000000000000000, .int .u64 100000000000000000, .int .u64 1000000000000000000, .int .u64 10000000000000000000] }
theorem laid_met (os : Os) : laidMet Tryd.prog Rows.fnFieldsAgainRow.laid ((laidWorld os).forCall (fun _ _ => 0) ⟨#[], #[.slice none 0 0], []⟩).memory :=
  laidMet_of_run' 8 (by kernel_rfl) (by kernel_rfl)
theorem reads (os : Os) {H : Type} (enc : TypeId × Value → H) : ∃ places, DataW.whole enc Tryd.prog ((laidWorld os).forCall (fun _ _ => 0) ⟨#[], #[.slice none 0 0], []⟩).memory Tryd.f5.params.toList Rows.fnFieldsAgainSpec.vars false (#[.slice none 0 0] : Array Value).toList 8 = some ([.nil], [], places) :=
  ⟨[], by kernel_rfl⟩

set_option maxRecDepth 100000 in
theorem lifted (os : Os) (started : os.Started) (H : Type) (enc : TypeId × Value → H) (F : Stop.Interp) :
    ReturnsInHanded {} Tryd.checked os 5 .any ((OpenSpec.ofChange Rows.fnFieldsAgainSpec).preRow enc Tryd.prog Tryd.f5 Rows.fnFieldsAgainRow.domain false Rows.fnFieldsAgainRow.laid) (((OpenSpec.ofChange Rows.fnFieldsAgainSpec).at F).post enc Tryd.prog Tryd.f5 false true false false) := by
  obtain ⟨places, hx⟩ := reads os enc
  refine returnsInHanded_of_row (C := Tryd.checked) (s := OpenSpec.ofChange Rows.fnFieldsAgainSpec) own started (by kernel_rfl) Tryd.func5
    (witness_row_at (enc := enc) (C := Tryd.checked) false (laidWorld os) #[.slice none 0 0] rfl (by kernel_rfl) (by kernel_rfl) (by kernel_rfl)
      (OpenSpec.preRow_of_cond 8 hx (by kernel_rfl) (fun k hk => by cases hk) (by kernel_rfl) (laid_met os))) ?_
  intro W base args ds gs before hval hW _ _ _ hL _ _
  exact contract H enc W base args ds gs before hval hW hL

theorem said : Rows.FnFieldsAgainSaid :=
  OpenClaim.holds_of_cond 5 Tryd.f5 rfl rfl rfl rfl rfl rfl rfl ⟨rfl, rfl, rfl, rfl, rfl⟩ rfl rfl rfl rfl rfl (by kernel_rfl) Tryd.func5 (by kernel_rfl)
    (of_decide_eq_true (by kernel_rfl)) (by unfold Func.isWrapper; first | (rw [if_pos (by decide +kernel)]; kernel_rfl) | (rw [if_neg (by decide +kernel)]; exact ⟨rfl, rfl⟩))
    (fun os started H enc _ F => by rw [OpenClaim.pre_eq_preRow]; exact lifted os started H enc F)

theorem plain (f : FuncId) (fn : Func) (hf : Tryd.pinned.checked.prog.funcNamed "loop.example/g03303/laws.FnFieldsAgain" = some f) (hfn : Tryd.pinned.checked.prog.funcs[f]? = some fn) :
    true = Tryd.pinned.checked.prog.looks [] ∧ ∀ (j : Nat) t, fn.params[j]? = some t → Tryd.pinned.checked.prog.wantsStandIn t = false := by
  obtain rfl : f = 5 := Option.some.inj ((show Tryd.prog.funcNamed "loop.example/g03303/laws.FnFieldsAgain" = some 5 by kernel_rfl).symm.trans hf) |>.symm
  obtain rfl : fn = Tryd.f5 := (Option.some.inj (Tryd.func5.symm.trans hfn)).symm
  refine ⟨by kernel_rfl, fun j t ht => ?_⟩
  rw [Tryd.params5] at ht
  have hm := Array.mem_of_getElem? ht
  simp only [List.mem_toArray, List.mem_cons, List.not_mem_nil, or_false] at hm
  subst hm
  exact (show Tryd.prog.wantsStandIn 22 = false by kernel_rfl)

/-- THE CARD. -/
theorem card : Rows.FnFieldsAgainCardSaid :=
  Claim7.holds_tied_plain_at .later [] _ _ _ _ said (fun _ h => by cases h) (by kernel_rfl) (fun _ h => by cases h) fnFieldsAgain_row_tie rfl ⟨rfl, rfl⟩ (by kernel_rfl) rfl plain (by kernel_rfl)
#print axioms card
end Go.Proofs.YtejjeihikmipdaaDoor.fnFieldsAgain
