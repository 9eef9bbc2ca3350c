/-
  The model's settled list; turned shapes of both sides.
-/
import Derived.Test.YtmboilogcnmlnaaGreatShpF
import Derived.BigRegion
namespace Go.Proofs.YtmboilogcnmlnaaGreat
open Go.RowKit
set_option linter.unusedVariables false
set_option linter.unusedSimpArgs false

/-- Nodes in new memory, or nil. -/
def OwnRet (T : TypeId) (xs : List Nd) (w : World) (e : Ending) (w' : World) : Prop := ∃ v, e = .returned v ∧ Own w' w.heap.size T v xs ∧ Below w.heap.size w w'

set_option maxRecDepth 100000 in
set_option maxHeartbeats 4000000 in
theorem specFit (xs : List Nd) (v : Value) (w : World) (hv : Prs w v xs) (h0 : 0 < xs.length) (hl : xs.length ≤ 1048576) (hs : SmlN xs) :
    Calls Tryz.prog 49 #[v] w (OwnSome 39 (fitL xs) w) := by
  have HN := Lib.hid hv
  have HSM := Lib.hid hs
  have HBD := Lib.hid (mn_bd hs h0)
  have HX1 := Lib.hid (mnX_succ xs)
  have HY1 := Lib.hid (mnY_succ xs)
  have HX0 := Lib.hid (show mnX xs 0 = (atN xs 0).x from rfl)
  have HY0 := Lib.hid (show mnY xs 0 = (atN xs 0).y from rfl)
  have HL1 := Lib.hid (lowF_succ xs)
  have HL0 := Lib.hid (show lowF xs 0 = 0 from rfl)
  have HLL := Lib.hid (lowF_lt h0)
  obtain ⟨A, c, rfl⟩ := prs_form2 hv
  clear hv hs
  have hlt : 0 < xs.length := h0
  obtain ⟨bb, o, c', he, hbl, hcs⟩ := prs_at2 HN.out hlt
  injection he with he1 he2 he3
  subst he1
  have HCS := Lib.hid hcs
  clear hcs he2 he3
  clear hlt
  have h0i : (0 : Int) < (xs.length : Int) := by omega
  have p0 := (HCS.out 0 h0).1
  have p1 := (HCS.out 0 h0).2
  simp only [Nat.zero_mul, Nat.add_zero, Nat.zero_add] at p0 p1
  rw [← HX0.out] at p0
  rw [← HY0.out] at p1
  have HFS := Lib.hid (fitN_succ xs)
  have HLN := Lib.hid (fitN_len xs)
  have HF0 := Lib.hid (show fitN xs 0 = [] from rfl)
  have HFE := Lib.hid (show fitN xs xs.length = fitL xs from rfl)
  generalize mnX xs = MX at *
  generalize mnY xs = MY at *
  generalize lowF xs = LF at *
  generalize fitN xs = X at *
  generalize fitL xs = R at *
  go_enter Tryz.func49, Tryz.ntmps49
  go_wp2_with fail
  clear p0 p1
  go_loopw [3, 4, 5, 6] (fun vx vy vf i wr => ∃ m : Nat, m ≤ xs.length ∧ i = .int .i64 m ∧ vx = .int .i64 (MX m) ∧ vy = .int .i64 (MY m) ∧ vf = .int .i64 ((LF m : Nat) : Int) ∧ Below w.heap.size w wr) (fun _ _ _ i _ => xs.length - (intOf i).toNat)
  case atStart => exact ⟨0, Nat.zero_le _, rfl, rfl, rfl, by rw [HL0.out]; rfl, Below.refl _ _⟩
  case round =>
    obtain ⟨m, hm, rfl, rfl, rfl, rfl, hb⟩ := hrel
    have HB := Lib.hid hb; clear hb
    have q1 : (0 : Int) ≤ m := by omega
    by_cases hlt : m < xs.length
    · have q2 : (m : Int) < (xs.length : Int) := by omega
      have p0 := (HB.out.cell (p := ⟨bb, _, none⟩) hbl).trans (HCS.out m hlt).1
      have p1 := (HB.out.cell (p := ⟨bb, _, none⟩) hbl).trans (HCS.out m hlt).2
      obtain ⟨nx, ny, hnm⟩ : ∃ nx ny, atN xs m = ⟨nx, ny⟩ := ⟨_, _, rfl⟩
      rw [hnm] at p0 p1
      simp only at p0 p1
      have hlq := HLL.out m (by omega)
      have q3 : (0 : Int) ≤ (LF m : Int) := by omega
      have q4 : (LF m : Int) < (xs.length : Int) := by omega
      have p2 := (HB.out.cell (p := ⟨bb, _, none⟩) hbl).trans (HCS.out (LF m) hlq).1
      have p3 := (HB.out.cell (p := ⟨bb, _, none⟩) hbl).trans (HCS.out (LF m) hlq).2
      have HLS := Lib.hid (HL1.out m)
      have HXS := Lib.hid (HX1.out m)
      have HYS := Lib.hid (HY1.out m)
      rw [hnm] at HLS HXS HYS
      clear hnm
      simp only at HXS HYS
      have HBF := Lib.hid (befB_iff ⟨nx, ny⟩ (atN xs (LF m)))
      generalize befB ⟨nx, ny⟩ (atN xs (LF m)) = r at *
      generalize atN xs (LF m) = fn at *
      obtain ⟨fx, fy⟩ := fn
      simp only at HBF p2 p3
      generalize hlf : LF m = lf at *
      clear hlf hlq
      generalize MX m = cx at *
      generalize MY m = cy at *
      by_cases h1 : ny < fy
      · have HLE := Lib.hid (show LF (m + 1) = m from by rw [HLS.out, if_pos (HBF.out.2 (.inl h1))])
        go_wp2_with fail
        all_goals
          go_quiet (fail)
          go_wp2_with fail
          exact ⟨⟨m + 1, by omega, by go_num, by first | (rw [HXS.out]; done) | (rw [HXS.out]; first | rfl | (congr 1 <;> omega)), by first | (rw [HYS.out]; done) | (rw [HYS.out]; first | rfl | (congr 1 <;> omega)), by rw [HLE.out], below_drewN HB.out _⟩, by simp [intOf]; omega⟩
      by_cases h2 : ny = fy
      · have h2b : (ny == fy) = true := by simpa using h2
        by_cases h3 : nx < fx
        · have HLE := Lib.hid (show LF (m + 1) = m from by rw [HLS.out, if_pos (HBF.out.2 (.inr ⟨h2, h3⟩))])
          clear h2
          go_wp2_with fail
          all_goals
            go_quiet (fail)
            go_wp2_with fail
            exact ⟨⟨m + 1, by omega, by go_num, by first | (rw [HXS.out]; done) | (rw [HXS.out]; first | rfl | (congr 1 <;> omega)), by first | (rw [HYS.out]; done) | (rw [HYS.out]; first | rfl | (congr 1 <;> omega)), by rw [HLE.out], below_drewN HB.out _⟩, by simp [intOf]; omega⟩
        · have HLE := Lib.hid (show LF (m + 1) = lf from by rw [HLS.out, if_neg (fun h => by have := HBF.out.1 h; omega)])
          clear h2
          go_wp2_with fail
          all_goals
            go_quiet (fail)
            go_wp2_with fail
            exact ⟨⟨m + 1, by omega, by go_num, by first | (rw [HXS.out]; done) | (rw [HXS.out]; first | rfl | (congr 1 <;> omega)), by first | (rw [HYS.out]; done) | (rw [HYS.out]; first | rfl | (congr 1 <;> omega)), by rw [HLE.out], below_drewN HB.out _⟩, by simp [intOf]; omega⟩
      · have h2b : (ny == fy) = false := by simpa using h2
        have h2c : decide (ny = fy) = false := by simpa using h2
        have h1c : decide (ny < fy) = false := by simpa using h1
        have HLE := Lib.hid (show LF (m + 1) = lf from by rw [HLS.out, if_neg (fun h => by have := HBF.out.1 h; omega)])
        clear h2
        go_wp2_with fail
        all_goals
          go_quiet (fail)
          go_wp2_with fail
          exact ⟨⟨m + 1, by omega, by go_num, by first | (rw [HXS.out]; done) | (rw [HXS.out]; first | rfl | (congr 1 <;> omega)), by first | (rw [HYS.out]; done) | (rw [HYS.out]; first | rfl | (congr 1 <;> omega)), by rw [HLE.out], below_drewN HB.out _⟩, by simp [intOf]; omega⟩
    · obtain rfl : m = xs.length := by omega
      have HLQ := Lib.hid (HLL.out xs.length (Nat.le_refl _))
      obtain ⟨b1, b2⟩ := HBD.out xs.length (Nat.le_refl _)
      obtain ⟨i0, hi', hz0, hz1, hz2⟩ := info_parts infoNode
      have HI := Lib.hid (And.intro hi' (And.intro hz0 (And.intro hz1 hz2))); clear hi' hz0 hz1 hz2
      clear HL1 HL0 HLL HX1 HX0 HY1 HY0 HBD
      generalize LF xs.length = LQ at *
      generalize MX xs.length = cx at *
      generalize MY xs.length = cy at *
      have hlt2 : ¬ (xs.length : Int) < (xs.length : Int) := by omega
      have HM8 := Lib.hid (Own.made wr wr.heap.size w.heap.size 39 rfl HB.out.size)
      have H8 := Lib.hid (show Held w (wr.alloc (.cells #[] 39)) [] from ⟨trivial, trivial, HB.out.trans (((Below.refl _ _).alloc (Nat.le_refl _) _).mono HB.out.size)⟩)
      go_wp2_with fail
      go_loopw [7, 8] (fun u i wr2 => ∃ m : Nat, m ≤ xs.length ∧ i = .int .i64 m ∧ (∃ g c, u = .slice (some ⟨g, 0, none⟩) (X m).length c) ∧ Own wr2 w.heap.size 39 u (X m) ∧ Held w wr2 []) (fun _ i _ => xs.length - (intOf i).toNat)
      case atStart => exact ⟨0, Nat.zero_le _, rfl, ⟨_, _, by rw [HF0.out]; rfl⟩, by rw [HF0.out]; exact HM8.out, H8.out⟩
      case round =>
        clear HB H8 HM8
        obtain ⟨m, hm, rfl, ⟨g, cg, rfl⟩, hown, hh⟩ := hrel
        have HO1 := Lib.hid hown; clear hown
        have H1 := Lib.hid hh; clear hh
        have q1 : (0 : Int) ≤ m := by omega
        by_cases hlt : m < xs.length
        · have q2 : (m : Int) < (xs.length : Int) := by omega
          have HFM := Lib.hid (HFS.out m)
          have hln : (X m).length ≤ 1048576 := by have := HLN.out m; omega
          have hjl := Nat.mod_lt (LQ + m) h0
          have hlq := HLQ.out
          have hjm : Int.tmod ((LQ : Int) + (m : Int)) (xs.length : Int) = (((LQ + m) % xs.length : Nat) : Int) := by
            rw [Int.tmod_eq_emod_of_nonneg (by omega)]
            exact_mod_cast rfl
          have hsm := HSM.out _ hjl
          have p0 := (H1.out.below.cell (p := ⟨bb, _, none⟩) hbl).trans (HCS.out _ hjl).1
          have p1 := (H1.out.below.cell (p := ⟨bb, _, none⟩) hbl).trans (HCS.out _ hjl).2
          generalize (LQ + m) % xs.length = j at *
          generalize atN xs j = n at *
          obtain ⟨nx, ny⟩ := n
          simp only at hsm p0 p1 HFM
          have e1 : IntKind.i64.wrap ((LQ : Int) + (m : Int)) = (LQ : Int) + (m : Int) := IntWalk.i64_in _ (by omega)
          have e2 : IntKind.i64.wrap (j : Int) = (j : Int) := IntWalk.i64_in _ (by omega)
          have q3 : (0 : Int) ≤ j := by omega
          have q4 : (j : Int) < (xs.length : Int) := by omega
          have h0n : ¬ (xs.length : Int) = 0 := by omega
          have hne : ¬ xs = [] := fun e => by rw [e] at h0; simp at h0
          have e3 : IntKind.i64.wrap (nx - cx) = nx - cx := IntWalk.i64_in _ (by omega)
          have e4 : IntKind.i64.wrap (ny - cy) = ny - cy := IntWalk.i64_in _ (by omega)
          clear hjl
          have H2 := Lib.hid (H1.out.alloc (.cells #[.int .i64 nx, .int .i64 ny] 39))
          have HO2 := Lib.hid (HO1.out.step ((Below.refl _ _).alloc (Nat.le_refl _) (.cells #[.int .i64 nx, .int .i64 ny] 39)))
          obtain ⟨hi', hz0, hz1', hz2'⟩ := HI.out
          have hsz1 := H2.out.below.size
          have HT1 := Lib.hid ((Held.none_ (wr.alloc (.cells #[.int .i64 nx, .int .i64 ny] 39))).new2 (wr.heap.size + 1) (by simp) [.int .i64 (nx - cx), .int .i64 (ny - cy)] 39)
          obtain ⟨x0, x1, _⟩ := HT1.out.1
          go_wp2_with (at_builtin; refine wpList_append_own _ rfl _ _ 27 rfl w.heap.size 39 i0 (.agg #[.int .i64 0, .int .i64 0]) 2 16 Tryz.underlying27 hi' hz0 hz1' hz2' rfl (by decide) _ _ _ rfl (World.ownsRow.alloc HO2.out _) ⟨wr.heap.size + 1, 0, none⟩ 1 1 [.int .i64 (nx - cx), .int .i64 (ny - cy)] rfl rfl ?c1 ?c2 ?c3 ?c4 ?c5 ?_)
          try (case c1 => exact two_news x0 x1)
          case c2 => simp [Value.oneCell']
          case c3 => unfold maxLen; omega
          case c4 => omega
          case c5 => first | (simp; omega) | omega | (simp at hsz1 ⊢; omega)
          intro v' w5 hown hgrow _
          clear x0 x1
          have H5 := Lib.hid (H2.out.stepB (B := w.heap.size) trivial (own_below HO2.out hsz1 hgrow) (Nat.le_refl _))
          have HO5 := Lib.hid (own_one hown); clear hown hgrow
          go_wp2_with fail
          refine ⟨⟨m + 1, by omega, by go_num, ?_, by rw [HFM.out]; exact HO5.out, H5.out⟩, by simp [intOf]; omega⟩
          rw [HFM.out]
          obtain ⟨g9, cp, e9⟩ := own_some HO5.out (by simp)
          exact ⟨g9, cp, e9⟩
        · obtain rfl : m = xs.length := by omega
          go_wp2_with fail
          go_ret
          have e := HFE.out
          subst e
          exact ⟨_, _, rfl, HO1.out, H1.out.below⟩
end Go.Proofs.YtmboilogcnmlnaaGreat
