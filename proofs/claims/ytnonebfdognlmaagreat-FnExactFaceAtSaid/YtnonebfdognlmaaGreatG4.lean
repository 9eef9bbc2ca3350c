/-
  Several texts in one: a claim has at most 60 files.
-/
import Derived.Test.YtnonebfdognlmaaGreatG3
import Derived.Test.YtnonebfdognlmaaGreatG2
import Derived.Test.YtnonebfdognlmaaGreatImplLead
import Derived.Test.YtnonebfdognlmaaGreatWinI
import Derived.Test.YtnonebfdognlmaaGreatAro
import Derived.Test.YtnonebfdognlmaaGreatG1
import Derived.Test.YtnonebfdognlmaaGreatLead
import Derived.BigGuardPart
import Derived.Deep.QuietTactic
import Derived.BigQuiet
import Derived.Deep.Draws
import Derived.LoopTactic
import Derived.Outline
import Derived.Laws.StructEq
import Derived.WalkMore
import Derived.ScopeJumps
import Derived.Test.YtnonebfdognlmaaGreatIter
import Derived.Maps.OwnOps
import Derived.Maps.Views
import Derived.Shelf.SlIterI.Sorted

namespace Go.Proofs.YtnonebfdognlmaaGreat
open Go.RowKit
set_option linter.unusedVariables false
set_option linter.unusedSimpArgs false

set_option maxRecDepth 100000 in
set_option maxHeartbeats 4000000 in
theorem implPart (ns ls : List Nd) (vn vl : Value) (q : Nat) (w : World) (hn : Prs w vn ns) (hl : Prs w vl ls) (hw : winB ns ls = true) (hq : q < ns.length) :
    Calls Tryz.prog 108 #[.agg #[vn, vl], .int .i64 q] w (IntsNew (partL ns ls q) w) := by
  have HN := Lib.hid hn
  have HL := Lib.hid hl
  obtain ⟨A, c, rfl⟩ := prs_form2 hn
  obtain ⟨A2, c2, rfl⟩ := prs_form2 hl
  clear hn hl
  obtain ⟨i0, hi, hz0, hz1, hz2⟩ := info_parts infoInt
  have HI := Lib.hid (And.intro hi (And.intro hz0 (And.intro hz1 hz2))); clear hi hz0 hz1 hz2
  have h12 := ((winB_iff ns ls).1 hw).1.1.2
  have h20 := ((winB_iff ns ls).1 hw).1.2
  have H0 := Lib.hid (held_pair w (.slice A ns.length c) (.slice A2 ls.length c2) 59)
  have HO0 := Lib.hid (show Ints ((w.alloc (.cells #[.slice A ns.length c, .slice A2 ls.length c2] 59)).alloc (.cells #[.int .i64 q] 3)) (w.heap.size + 1) (.slice (some ⟨w.heap.size + 1, 0, none⟩) 1 1) [(q : Int)] from by
    have := World.ownsRow_lit (w := w.alloc (.cells #[.slice A ns.length c, .slice A2 ls.length c2] 59)) (base := w.heap.size + 1) (e := 3) (size := 1) #[.int .i64 (q : Int)] 1 (by simp) (by unfold maxLen; omega) rfl
    rw [show (w.alloc (.cells #[.slice A ns.length c, .slice A2 ls.length c2] 59)).heap.size = w.heap.size + 1 by simp] at this
    exact this)
  have HWAY := Lib.hid (Way.start (ls := ls) hq)
  have HW := Lib.hid hw; clear hw
  go_enter Tryz.func108, Tryz.ntmps108
  go_wp2_with fail
  go_loopw [5, 6] (fun v i wr => ∃ (S : List Int) (m : Nat), m ≤ S.length ∧ i = .int .i64 m ∧ Way ns ls q S m ∧ Ints wr (w.heap.size + 1) v S ∧ Held w wr [(w.heap.size, 0, .slice A ns.length c), (w.heap.size, 1, .slice A2 ls.length c2)]) (fun _ i _ => ns.length - (intOf i).toNat)
  case atStart => exact ⟨[(q : Int)], 0, Nat.zero_le _, rfl, HWAY.out, HO0.out, H0.out.alloc _⟩
  case round =>
    clear H0 HO0 HWAY
    obtain ⟨S, m, hm, rfl, hway, hown, hh⟩ := hrel
    have HOWN := Lib.hid hown; clear hown
    have HWAY := Lib.hid hway; clear hway
    have H1 := Lib.hid hh; clear hh
    have hlen := HWAY.out.len
    obtain ⟨x0, x1, _⟩ := H1.out.1
    by_cases hlt : m < S.length
    · obtain ⟨g, cp, rfl⟩ := HOWN.out.some_ (by omega)
      have hz1 : (m : Int) < (S.length : Int) := by omega
      have hz2 : (0 : Int) ≤ m := by omega
      have HX := Lib.hid (show ∃ p : Nat, atZ S m = p ∧ p < ns.length ∧ lab ls ls.length p = lab ls ls.length q from HWAY.out.node _ (by rw [← atZ_get hlt]; exact List.getElem_mem hlt))
      obtain ⟨p, hxp, hpn, hlp⟩ := HX.out
      clear HX
      have HSEQ := Lib.hid HL.out
      go_wp2_with fail
      go_loopw [5, 21] (fun v i wr => ∃ (S' : List Int) (j : Nat), j ≤ ls.length ∧ i = .int .i64 j ∧ m < S'.length ∧ atZ S' m = p ∧ Way ns ls q S' m ∧ Closed ls S' p j ∧ Ints wr (w.heap.size + 1) v S' ∧ Held w wr [(w.heap.size, 0, .slice A ns.length c), (w.heap.size, 1, .slice A2 ls.length c2)]) (fun _ i _ => ls.length - (intOf i).toNat)
      case atStart => exact ⟨S, 0, Nat.zero_le _, rfl, hlt, hxp, HWAY.out, fun j hj => by omega, HOWN.out, H1.out⟩
      case round =>
        clear HWAY HOWN H1 x0 x1 hxp hm hlt hlen hz1
        obtain ⟨S', j, hj, rfl, hms, hxp, hway, hcl, hown, hh⟩ := hrel
        have HOWN := Lib.hid hown; clear hown
        have HWAY := Lib.hid hway; clear hway
        have HCL := Lib.hid hcl; clear hcl
        have H1 := Lib.hid hh; clear hh
        have hlen := HWAY.out.len
        obtain ⟨x0, x1, _⟩ := H1.out.1
        by_cases hjl : j < ls.length
        · obtain ⟨b2, o2, c3, he, hbl2, hcs2⟩ := prs_at2 (HL.out.step H1.out.below) hjl
          injection he with he1 he2 he3
          subst he1
          clear he2 he3
          obtain ⟨g, cp, rfl⟩ := HOWN.out.some_ (by omega)
          obtain ⟨l0, l1⟩ := hcs2 j hjl
          clear hcs2
          have HXO := Lib.hid (fun w => implOther (atN ls j) (p : Int) w)
          have HOL := Lib.hid (fun h0 => other_lab (p := p) HW.out hjl h0)
          have HCN := Lib.hid (fun (S : List Int) (h : Closed ls S p j) (h2 : 0 ≤ otherI (atN ls j) p → otherI (atN ls j) p ∈ S) => (show Closed ls S p (j + 1) from fun j' hj' => by
            by_cases e : j' = j
            · subst e; exact h2
            · exact h j' (by omega)))
          have hzj1 : (j : Int) < (ls.length : Int) := by omega
          have hzj2 : (0 : Int) ≤ j := by omega
          have hzm1 : (m : Int) < (S'.length : Int) := by omega
          generalize otherI (atN ls j) p = o at *
          generalize atN ls j = l at *
          obtain ⟨lx, ly⟩ := l
          unfold Nd.val at HXO
          simp only at l0 l1 HXO
          obtain ⟨c0, f0, hgl, hgB, -⟩ := HOWN.out.at_ hms
          rw [hxp] at c0
          have H2 := Lib.hid ((held_plus H1.out (gs := [(g, m, .int .i64 (p : Int))]) ⟨c0, trivial⟩ ⟨hgl, trivial⟩).new2 wr.heap.size rfl [.int .i64 lx, .int .i64 ly] 87)
          have HO2 := Lib.hid (HOWN.out.step ((Below.refl _ _).alloc (Nat.le_refl _) (.cells #[.int .i64 lx, .int .i64 ly] 87)))
          clear f0 c0
          by_cases ho : 0 ≤ o
          · obtain ⟨r, rfl, hrn, hrl, -⟩ := HOL.out ho
            have HR := Lib.hid (show r < ns.length ∧ lab ls ls.length r = lab ls ls.length q from ⟨hrn, hrl.trans hlp⟩)
            clear HOL hrn hrl
            go_wp2_with fail
            clear x0 x1
            refine regionW (fun W => (Held _ W [(wr.heap.size, 0, .int .i64 (lx)), (wr.heap.size, 1, .int .i64 (ly)), (w.heap.size, 0, .slice A ns.length c), (w.heap.size, 1, .slice (some ⟨b2, o2, none⟩) ls.length c2), (g, m, .int .i64 (p))]) ∧ Ints W (w.heap.size + 1) (.slice (some ⟨g, 0, none⟩) S'.length cp) S') (by kernel_rfl) ⟨H2.out.drew, (HO2.out).step ((Below.refl _ _).drew)⟩ ?_
            refine takeW (i := 0) (v := ?_) (Stable.and (Stable.held _ _) (stable_ints (w.heap.size + 1) (.slice (some ⟨g, 0, none⟩) S'.length cp) S')) rfl (by kernel_rfl) (by kernel_rfl) (by kernel_rfl) (fun _ _ _ h => h) ?_ ?_
            rotate_left
            · first | (refine Or.inl ⟨by rfl, fun W hS => detR_value (w' := W) ?_ (Below.refl _ _)⟩; obtain ⟨hH, q1⟩ := hS; obtain ⟨x0, x1, x2, x3, x4, _⟩ := hH.1; go_simp; first | done | with_reducible rfl) | fail
            simp only [Act.put, List.setIfInBounds_toArray, List.set_cons_zero, List.set_cons_succ]
            refine takeW (i := 1) (v := ?_) (Stable.and (Stable.held _ _) (stable_ints (w.heap.size + 1) (.slice (some ⟨g, 0, none⟩) S'.length cp) S')) rfl (by kernel_rfl) (by kernel_rfl) (by kernel_rfl) (fun _ _ _ h => h) ?_ ?_
            rotate_left
            · first | (refine Or.inl ⟨by rfl, fun W hS => detR_value (w' := W) ?_ (Below.refl _ _)⟩; obtain ⟨hH, q1⟩ := hS; obtain ⟨x0, x1, x2, x3, x4, _⟩ := hH.1; go_simp; first | done | with_reducible rfl) | fail
            simp only [Act.put, List.setIfInBounds_toArray, List.set_cons_zero, List.set_cons_succ]
            refine takeW (i := 2) (v := ?_) (Stable.and (Stable.held _ _) (stable_ints (w.heap.size + 1) (.slice (some ⟨g, 0, none⟩) S'.length cp) S')) rfl (by kernel_rfl) (by kernel_rfl) (by kernel_rfl) (fun _ _ _ h => h) ?_ ?_
            rotate_left
            · first | (refine Or.inl ⟨by rfl, fun W hS => detR_value (w' := W) ?_ (Below.refl _ _)⟩; obtain ⟨hH, q1⟩ := hS; obtain ⟨x0, x1, x2, x3, x4, _⟩ := hH.1; go_simp; first | done | with_reducible rfl) | fail
            simp only [Act.put, List.setIfInBounds_toArray, List.set_cons_zero, List.set_cons_succ]
            refine takeW (i := 3) (v := ?_) (Stable.and (Stable.held _ _) (stable_ints (w.heap.size + 1) (.slice (some ⟨g, 0, none⟩) S'.length cp) S')) rfl (by kernel_rfl) (by kernel_rfl) (by kernel_rfl) (fun _ _ _ h => h) ?_ ?_
            rotate_left
            · first | (refine Or.inl ⟨by rfl, fun W hS => detR_value (w' := W) ?_ (Below.refl _ _)⟩; obtain ⟨hH, q1⟩ := hS; obtain ⟨x0, x1, x2, x3, x4, _⟩ := hH.1; go_simp; first | done | with_reducible rfl) | fail
            simp only [Act.put, List.setIfInBounds_toArray, List.set_cons_zero, List.set_cons_succ]
            refine takeW (i := 4) (v := ?_) (Stable.and (Stable.held _ _) (stable_ints (w.heap.size + 1) (.slice (some ⟨g, 0, none⟩) S'.length cp) S')) rfl (by kernel_rfl) (by kernel_rfl) (by kernel_rfl) (fun _ _ _ h => h) ?_ ?_
            rotate_left
            · first | (refine Or.inl ⟨by rfl, fun W hS => detR_value (w' := W) ?_ (Below.refl _ _)⟩; obtain ⟨hH, q1⟩ := hS; obtain ⟨x0, x1, x2, x3, x4, _⟩ := hH.1; go_simp; first | done | with_reducible rfl) | fail
            simp only [Act.put, List.setIfInBounds_toArray, List.set_cons_zero, List.set_cons_succ]
            refine takeW (i := 5) (v := ?_) (Stable.and (Stable.held _ _) (stable_ints (w.heap.size + 1) (.slice (some ⟨g, 0, none⟩) S'.length cp) S')) rfl (by kernel_rfl) (by kernel_rfl) (by kernel_rfl) (fun _ _ _ h => h) ?_ ?_
            rotate_left
            · first | (refine Or.inl ⟨by rfl, fun W hS => ?_⟩; obtain ⟨hH, q1⟩ := hS; refine detR_call (w' := W) (f := ?_) (args := ?_) ?_ ?_; rotate_left 2; (go_simp; (refine ⟨?_, ?_⟩ <;> with_reducible rfl)); (first | (with_reducible refine (HXO.out _).mono ?_) | fail); (first | (rintro e wn ⟨rfl, hb⟩; refine ⟨?_, hb⟩; with_reducible rfl) | (rintro e wn ⟨rfl, rfl⟩; refine ⟨?_, Below.refl _ _⟩; with_reducible rfl) | fail)) | fail
            simp only [Act.put, List.setIfInBounds_toArray, List.set_cons_zero, List.set_cons_succ]
            refine takeW (i := 6) (v := ?_) (Stable.and (Stable.held _ _) (stable_ints (w.heap.size + 1) (.slice (some ⟨g, 0, none⟩) S'.length cp) S')) rfl (by kernel_rfl) (by kernel_rfl) (by kernel_rfl) (fun _ _ _ h => h) ?_ ?_
            rotate_left
            · first | (refine Or.inl ⟨by rfl, fun W hS => detR_value (w' := W) ?_ (Below.refl _ _)⟩; obtain ⟨hH, q1⟩ := hS; obtain ⟨x0, x1, x2, x3, x4, _⟩ := hH.1; go_simp; first | done | with_reducible rfl) | fail
            simp only [Act.put, List.setIfInBounds_toArray, List.set_cons_zero, List.set_cons_succ]
            refine doneW (by kernel_rfl) fun wH3 HG => ?_
            obtain ⟨hH, q1⟩ := HG
            have H3 := Lib.hid hH; clear hH
            have MH3_q1 := Lib.hid q1; clear q1
            try clear x0 x1 x2 x3 x4
            obtain ⟨x0, x1, x2, x3, x4, _⟩ := H3.out.1
            go_wp2_with fail
            have H4 := Lib.hid (H3.out.only (gs := [(w.heap.size, 0, .slice A ns.length c), (w.heap.size, 1, .slice (some ⟨b2, o2, none⟩) ls.length c2)]) (fun ⟨_, _, a, b, _⟩ => ⟨a, b, trivial⟩) (fun ⟨_, _, a, b, _⟩ => ⟨a, b, trivial⟩))
            refine (containsI (r : Int) MH3_q1.out (by omega)).mono ?_
            rintro e w4 ⟨rfl, rfl⟩
            by_cases hct : S'.contains (r : Int) = true
            · rw [hct]
              have HMM := Lib.hid (show (r : Int) ∈ S' from by simpa using hct)
              clear hct
              go_wp2_with fail
              exact ⟨⟨S', j + 1, by omega, by go_num, hms, hxp, HWAY.out, HCN.out S' HCL.out (fun _ => HMM.out), MH3_q1.out, H4.out⟩, by simp [intOf]; omega⟩
            · have HMM := Lib.hid (show (r : Int) ∉ S' from by simpa using hct)
              rw [show S'.contains (r : Int) = false by simpa using hct]
              clear hct
              have hsz1 := H4.out.2.1.1
              obtain ⟨hi, hz0, hz1', hz2'⟩ := HI.out
              go_wp2_with (at_builtin; refine wpList_append_own _ rfl _ _ 41 rfl (w.heap.size + 1) 3 i0 (.int .i64 0) 1 8 Tryz.underlying41 hi hz0 hz1' hz2' rfl (by decide) _ _ _ rfl (World.ownsRow.alloc MH3_q1.out _) ⟨w4.heap.size, 0, none⟩ 1 1 [.int .i64 r] rfl rfl ?c1 ?c2 ?c3 ?c4 ?c5 ?_)
              case c1 => exact cell_one_new _ _ _
              case c2 => simp [Value.oneCell']
              case c3 => unfold maxLen; omega
              case c4 => omega
              case c5 => simp; omega
              intro v' w5 hown hgrow _
              have H5 := Lib.hid (H4.out.stepB (B := w.heap.size + 1) ⟨Nat.lt_succ_self _, Nat.lt_succ_self _, trivial⟩ (grown_below MH3_q1.out hsz1 hgrow) (Nat.le_succ _))
              have HO5 := Lib.hid (Ints.more hown); clear hown hgrow
              go_wp2_with fail
              exact ⟨⟨S' ++ [(r : Int)], j + 1, by omega, by go_num, by simp; omega, by rw [atZ_more hms]; exact hxp, HWAY.out.put (by omega) HMM.out ⟨r, rfl, HR.out.1, HR.out.2⟩, HCN.out _ (HCL.out.more _) (fun _ => by simp), HO5.out, H5.out⟩, by simp [intOf]; omega⟩
          · go_wp2_with fail
            clear x0 x1
            refine regionW (fun W => (Held _ W [(wr.heap.size, 0, .int .i64 (lx)), (wr.heap.size, 1, .int .i64 (ly)), (w.heap.size, 0, .slice A ns.length c), (w.heap.size, 1, .slice (some ⟨b2, o2, none⟩) ls.length c2), (g, m, .int .i64 (p))]) ∧ Ints W (w.heap.size + 1) (.slice (some ⟨g, 0, none⟩) S'.length cp) S') (by kernel_rfl) ⟨H2.out.drew, (HO2.out).step ((Below.refl _ _).drew)⟩ ?_
            refine takeW (i := 0) (v := ?_) (Stable.and (Stable.held _ _) (stable_ints (w.heap.size + 1) (.slice (some ⟨g, 0, none⟩) S'.length cp) S')) rfl (by kernel_rfl) (by kernel_rfl) (by kernel_rfl) (fun _ _ _ h => h) ?_ ?_
            rotate_left
            · first | (refine Or.inl ⟨by rfl, fun W hS => detR_value (w' := W) ?_ (Below.refl _ _)⟩; obtain ⟨hH, q1⟩ := hS; obtain ⟨x0, x1, x2, x3, x4, _⟩ := hH.1; go_simp; first | done | with_reducible rfl) | fail
            simp only [Act.put, List.setIfInBounds_toArray, List.set_cons_zero, List.set_cons_succ]
            refine takeW (i := 1) (v := ?_) (Stable.and (Stable.held _ _) (stable_ints (w.heap.size + 1) (.slice (some ⟨g, 0, none⟩) S'.length cp) S')) rfl (by kernel_rfl) (by kernel_rfl) (by kernel_rfl) (fun _ _ _ h => h) ?_ ?_
            rotate_left
            · first | (refine Or.inl ⟨by rfl, fun W hS => detR_value (w' := W) ?_ (Below.refl _ _)⟩; obtain ⟨hH, q1⟩ := hS; obtain ⟨x0, x1, x2, x3, x4, _⟩ := hH.1; go_simp; first | done | with_reducible rfl) | fail
            simp only [Act.put, List.setIfInBounds_toArray, List.set_cons_zero, List.set_cons_succ]
            refine takeW (i := 2) (v := ?_) (Stable.and (Stable.held _ _) (stable_ints (w.heap.size + 1) (.slice (some ⟨g, 0, none⟩) S'.length cp) S')) rfl (by kernel_rfl) (by kernel_rfl) (by kernel_rfl) (fun _ _ _ h => h) ?_ ?_
            rotate_left
            · first | (refine Or.inl ⟨by rfl, fun W hS => detR_value (w' := W) ?_ (Below.refl _ _)⟩; obtain ⟨hH, q1⟩ := hS; obtain ⟨x0, x1, x2, x3, x4, _⟩ := hH.1; go_simp; first | done | with_reducible rfl) | fail
            simp only [Act.put, List.setIfInBounds_toArray, List.set_cons_zero, List.set_cons_succ]
            refine takeW (i := 3) (v := ?_) (Stable.and (Stable.held _ _) (stable_ints (w.heap.size + 1) (.slice (some ⟨g, 0, none⟩) S'.length cp) S')) rfl (by kernel_rfl) (by kernel_rfl) (by kernel_rfl) (fun _ _ _ h => h) ?_ ?_
            rotate_left
            · first | (refine Or.inl ⟨by rfl, fun W hS => detR_value (w' := W) ?_ (Below.refl _ _)⟩; obtain ⟨hH, q1⟩ := hS; obtain ⟨x0, x1, x2, x3, x4, _⟩ := hH.1; go_simp; first | done | with_reducible rfl) | fail
            simp only [Act.put, List.setIfInBounds_toArray, List.set_cons_zero, List.set_cons_succ]
            refine takeW (i := 4) (v := ?_) (Stable.and (Stable.held _ _) (stable_ints (w.heap.size + 1) (.slice (some ⟨g, 0, none⟩) S'.length cp) S')) rfl (by kernel_rfl) (by kernel_rfl) (by kernel_rfl) (fun _ _ _ h => h) ?_ ?_
            rotate_left
            · first | (refine Or.inl ⟨by rfl, fun W hS => detR_value (w' := W) ?_ (Below.refl _ _)⟩; obtain ⟨hH, q1⟩ := hS; obtain ⟨x0, x1, x2, x3, x4, _⟩ := hH.1; go_simp; first | done | with_reducible rfl) | fail
            simp only [Act.put, List.setIfInBounds_toArray, List.set_cons_zero, List.set_cons_succ]
            refine takeW (i := 5) (v := ?_) (Stable.and (Stable.held _ _) (stable_ints (w.heap.size + 1) (.slice (some ⟨g, 0, none⟩) S'.length cp) S')) rfl (by kernel_rfl) (by kernel_rfl) (by kernel_rfl) (fun _ _ _ h => h) ?_ ?_
            rotate_left
            · first | (refine Or.inl ⟨by rfl, fun W hS => ?_⟩; obtain ⟨hH, q1⟩ := hS; refine detR_call (w' := W) (f := ?_) (args := ?_) ?_ ?_; rotate_left 2; (go_simp; (refine ⟨?_, ?_⟩ <;> with_reducible rfl)); (first | (with_reducible refine (HXO.out _).mono ?_) | fail); (first | (rintro e wn ⟨rfl, hb⟩; refine ⟨?_, hb⟩; with_reducible rfl) | (rintro e wn ⟨rfl, rfl⟩; refine ⟨?_, Below.refl _ _⟩; with_reducible rfl) | fail)) | fail
            simp only [Act.put, List.setIfInBounds_toArray, List.set_cons_zero, List.set_cons_succ]
            refine takeW (i := 6) (v := ?_) (Stable.and (Stable.held _ _) (stable_ints (w.heap.size + 1) (.slice (some ⟨g, 0, none⟩) S'.length cp) S')) rfl (by kernel_rfl) (by kernel_rfl) (by kernel_rfl) (fun _ _ _ h => h) ?_ ?_
            rotate_left
            · first | (refine Or.inl ⟨by rfl, fun W hS => detR_value (w' := W) ?_ (Below.refl _ _)⟩; obtain ⟨hH, q1⟩ := hS; obtain ⟨x0, x1, x2, x3, x4, _⟩ := hH.1; go_simp; first | done | with_reducible rfl) | fail
            simp only [Act.put, List.setIfInBounds_toArray, List.set_cons_zero, List.set_cons_succ]
            refine doneW (by kernel_rfl) fun wH3 HG => ?_
            obtain ⟨hH, q1⟩ := HG
            have H3 := Lib.hid hH; clear hH
            have MH3_q1 := Lib.hid q1; clear q1
            try clear x0 x1 x2 x3 x4
            obtain ⟨x0, x1, x2, x3, x4, _⟩ := H3.out.1
            go_wp2_with fail
            have H4 := Lib.hid (H3.out.only (gs := [(w.heap.size, 0, .slice A ns.length c), (w.heap.size, 1, .slice (some ⟨b2, o2, none⟩) ls.length c2)]) (fun ⟨_, _, a, b, _⟩ => ⟨a, b, trivial⟩) (fun ⟨_, _, a, b, _⟩ => ⟨a, b, trivial⟩))
            exact ⟨⟨S', j + 1, by omega, by go_num, hms, hxp, HWAY.out, HCN.out S' HCL.out (fun h => absurd h (Int.not_le.2 ho)), MH3_q1.out, H4.out⟩, by simp [intOf]; omega⟩
        · obtain rfl : j = ls.length := by omega
          have HNX := Lib.hid (HWAY.out.next (by rw [hxp]; exact HCL.out))
          go_wp2_with fail
          exact ⟨⟨S', m + 1, hms, by go_num, HNX.out, HOWN.out, H1.out⟩, by simp [intOf]; omega⟩
    · obtain rfl : m = S.length := by omega
      obtain ⟨g, cp, rfl⟩ := HOWN.out.some_ (by have := List.length_pos_of_mem HWAY.out.mem; omega)
      have HS := Lib.hid (HWAY.out.sorted HW.out)
      have hsz := H1.out.2.1.1
      have HSO := Lib.hid (sortInts HOWN.out (by omega) (by omega))
      go_wp2_with fail
      refine (HSO.out).mono ?_
      rintro e w2 ⟨rfl, hi, hb⟩
      rw [HS.out] at hi
      have HI2 := Lib.hid hi
      have HB2 := Lib.hid (H1.out.below.trans (hb.mono (Nat.le_succ _)))
      have hl : (partL ns ls q).length = S.length := by rw [← HS.out]; exact List.length_mergeSort _
      clear hi hb
      go_wp2_with fail
      go_ret
      exact ⟨_, rfl, HI2.out.mono (by omega), HB2.out⟩
end Go.Proofs.YtnonebfdognlmaaGreat

namespace Go.Proofs.YtnonebfdognlmaaGreat
open Go.RowKit
set_option linter.unusedVariables false
set_option linter.unusedSimpArgs false

def genL (n : Nat) (f : Nat → Int) : List Int := (List.range n).map f
theorem genL_len (n : Nat) (f : Nat → Int) : (genL n f).length = n := by simp [genL]
theorem genL_at {n i : Nat} (f : Nat → Int) (h : i < n) : atZ (genL n f) i = f i := by
  unfold atZ genL
  simp [List.getD, List.getElem?_map, List.getElem?_range, h]
theorem genL_succ (n : Nat) (f : Nat → Int) : genL (n + 1) f = genL n f ++ [f n] := by simp [genL, List.range_succ]
theorem genL_set (n i : Nat) (f : Nat → Int) (y : Int) : (genL n f).set i y = genL n (fun j => if j = i then y else f j) := by
  apply List.ext_getElem?
  intro j
  unfold genL
  rw [List.getElem?_set]
  by_cases h : i = j
  · subst h
    by_cases hi : i < n
    · simp [hi]
    · simp [hi]
  · rw [if_neg h]
    simp only [List.getElem?_map]
    by_cases hj : j < n
    · simp [hj, Ne.symm h]
    · simp [hj]
theorem genL_congr {n : Nat} {f g : Nat → Int} (h : ∀ i, i < n → f i = g i) : genL n f = genL n g := by
  unfold genL
  exact List.map_congr_left fun i hi => h i (List.mem_range.1 hi)
def labI (ls : List Nd) (k i : Nat) : Int := (lab ls k i : Nat)
/-- The labels while lead k levels them: those before i are done. -/
def midI (ls : List Nd) (k i j : Nat) : Int := if j < i then labI ls (k + 1) j else labI ls k j
theorem midI_next {ls : List Nd} {k n i p q : Nat} (hp : (atN ls k).x = (p : Int)) (hq : (atN ls k).y = (q : Int)) (hi : i < n) :
    genL n (midI ls k (i + 1)) = if lab ls k i = max (lab ls k p) (lab ls k q) then (genL n (midI ls k i)).set i (min (lab ls k p) (lab ls k q) : Nat) else genL n (midI ls k i) := by
  have e : lab ls (k + 1) i = if lab ls k i = max (lab ls k p) (lab ls k q) then min (lab ls k p) (lab ls k q) else lab ls k i := by
    rw [lab, hp, hq]; simp only [Int.toNat_natCast]
  by_cases h : lab ls k i = max (lab ls k p) (lab ls k q)
  · rw [if_pos h, genL_set]
    rw [if_pos h] at e
    refine genL_congr fun j hj => ?_
    unfold midI labI
    by_cases h1 : j = i
    · subst h1; rw [if_pos (Nat.lt_succ_self _), if_pos rfl, e]
    · rw [if_neg h1]
      by_cases h2 : j < i
      · rw [if_pos h2, if_pos (by omega)]
      · rw [if_neg h2, if_neg (by omega)]
  · rw [if_neg h]
    rw [if_neg h] at e
    refine genL_congr fun j hj => ?_
    unfold midI labI
    by_cases h1 : j = i
    · subst h1; rw [if_pos (Nat.lt_succ_self _), if_neg (Nat.lt_irrefl _), e]
    · by_cases h2 : j < i
      · rw [if_pos h2, if_pos (by omega)]
      · rw [if_neg h2, if_neg (by omega)]
theorem midI_zero (ls : List Nd) (k n : Nat) : genL n (midI ls k 0) = genL n (labI ls k) := genL_congr fun i _ => by unfold midI; rw [if_neg (Nat.not_lt_zero _)]
theorem midI_full (ls : List Nd) (k n : Nat) : genL n (midI ls k n) = genL n (labI ls (k + 1)) := genL_congr fun i hi => by unfold midI; rw [if_pos hi]
def labsL (ns ls : List Nd) : List Int := genL ns.length (labI ls ls.length)

set_option maxRecDepth 100000 in
set_option maxHeartbeats 4000000 in
theorem specParts (ns ls : List Nd) (vn vl : Value) (w : World) (hn : Prs w vn ns) (hl : Prs w vl ls) (hw : winB ns ls = true) :
    Calls Tryz.prog 79 #[.agg #[vn, vl]] w (IntsNew (labsL ns ls) w) := by
  have HN := Lib.hid hn
  have HL := Lib.hid hl
  obtain ⟨A, c, rfl⟩ := prs_form2 hn
  obtain ⟨A2, c2, rfl⟩ := prs_form2 hl
  clear hn hl
  obtain ⟨i0, hi, hz0, hz1, hz2⟩ := info_parts infoInt
  have HI := Lib.hid (And.intro hi (And.intro hz0 (And.intro hz1 hz2))); clear hi hz0 hz1 hz2
  have h12 := ((winB_iff ns ls).1 hw).1.1.2
  have h1 := ((winB_iff ns ls).1 hw).1.1.1
  have h20 := ((winB_iff ns ls).1 hw).1.2
  have HLD := Lib.hid (fun j (hj : j < ls.length) => leadOkB_spec (((winB_iff ns ls).1 hw).2.2 j hj).1)
  clear hw
  have H0 := Lib.hid (held_pair w (.slice A ns.length c) (.slice A2 ls.length c2) 32)
  go_enter Tryz.func79, Tryz.ntmps79
  go_wp2_with fail
  go_loopw [3, 4] (fun v i wr => ∃ m : Nat, m ≤ ns.length ∧ i = .int .i64 m ∧ Ints wr (w.heap.size + 1) v (genL m (labI ls 0)) ∧ Held w wr [(w.heap.size, 0, .slice A ns.length c), (w.heap.size, 1, .slice A2 ls.length c2)]) (fun _ i _ => ns.length - (intOf i).toNat)
  case atStart => exact ⟨0, Nat.zero_le _, rfl, Ints.made _ _ _ (by simp) (Nat.le_refl _), H0.out.alloc _⟩
  case round =>
    clear H0
    obtain ⟨m, hm, rfl, hown, hh⟩ := hrel
    have HOWN := Lib.hid hown; clear hown
    have H1 := Lib.hid hh; clear hh
    obtain ⟨x0, x1, _⟩ := H1.out.1
    by_cases hlt : m < ns.length
    · have hz1 : (m : Int) < (ns.length : Int) := by omega
      have hz2 : (0 : Int) ≤ m := by omega
      have HG := Lib.hid (genL_succ m (labI ls 0))
      have hgl := genL_len m (labI ls 0)
      have HM := Lib.hid (show labI ls 0 m = m from rfl)
      generalize genL m (labI ls 0) = l at *
      have hsz1 := H1.out.2.1.1
      obtain ⟨hi, hz0, hz1', hz2'⟩ := HI.out
      go_wp2_with (at_builtin; refine wpList_append_own _ rfl _ _ 41 rfl (w.heap.size + 1) 3 i0 (.int .i64 0) 1 8 Tryz.underlying41 hi hz0 hz1' hz2' rfl (by decide) _ _ _ rfl (World.ownsRow.alloc HOWN.out _) ⟨wr.heap.size, 0, none⟩ 1 1 [.int .i64 m] rfl rfl ?c1 ?c2 ?c3 ?c4 ?c5 ?_)
      case c1 => exact cell_one_new _ _ _
      case c2 => simp [Value.oneCell']
      case c3 => unfold maxLen; omega
      case c4 => omega
      case c5 => simp; omega
      intro v' w2 hown hgrow _
      have H4 := Lib.hid (H1.out.stepB (B := w.heap.size + 1) ⟨Nat.lt_succ_self _, Nat.lt_succ_self _, trivial⟩ (grown_below HOWN.out hsz1 hgrow) (Nat.le_succ _))
      have HO2 := Lib.hid (Ints.more (xs := l) (x := (m : Int)) (by rw [hgl]; exact hown)); clear hown hgrow
      go_wp2_with fail
      exact ⟨⟨m + 1, by omega, by go_num, by rw [HG.out, HM.out]; exact HO2.out, H4.out⟩, by simp [intOf]; omega⟩
    · obtain rfl : m = ns.length := by omega
      obtain ⟨g, cp, rfl⟩ := HOWN.out.some_ (by rw [genL_len]; omega)
      rw [genL_len] at HOWN ⊢
      clear x0 x1
      obtain ⟨x0, x1, _⟩ := H1.out.1
      go_wp2_with fail
      go_loopw [5] (fun i wr => ∃ k : Nat, k ≤ ls.length ∧ i = .int .i64 k ∧ Ints wr (w.heap.size + 1) (.slice (some ⟨g, 0, none⟩) ns.length cp) (genL ns.length (labI ls k)) ∧ Held w wr [(w.heap.size, 0, .slice A ns.length c), (w.heap.size, 1, .slice A2 ls.length c2)]) (fun i _ => ls.length - (intOf i).toNat)
      case atStart => exact ⟨0, Nat.zero_le _, rfl, HOWN.out, H1.out⟩
      case round =>
        clear HOWN H1 x0 x1
        obtain ⟨k, hk, rfl, hown, hh⟩ := hrel
        have HOWN := Lib.hid hown; clear hown
        have H1 := Lib.hid hh; clear hh
        obtain ⟨x0, x1, _⟩ := H1.out.1
        by_cases hkl : k < ls.length
        · obtain ⟨p, q, el, hpq, hp, hq, -⟩ := HLD.out k hkl
          obtain ⟨b2, o2, c3, he, hbl2, hcs2⟩ := prs_at2 (HL.out.step H1.out.below) hkl
          injection he with he1 he2 he3
          subst he1
          clear he2 he3
          obtain ⟨l0, l1⟩ := hcs2 k hkl
          clear hcs2
          rw [el] at l0 l1
          simp only at l0 l1
          have hgl := genL_len ns.length (labI ls k)
          obtain ⟨c0, -, hgl0, hgB, -⟩ := HOWN.out.at_ (j := p) (by omega)
          obtain ⟨c1, -, -, -, -⟩ := HOWN.out.at_ (j := q) (by omega)
          rw [genL_at _ hp] at c0
          rw [genL_at _ hq] at c1
          have HMN := Lib.hid (fun i (hi : i < ns.length) => midI_next (ls := ls) (k := k) (n := ns.length) (by rw [el]) (by rw [el]) hi)
          have HMV := Lib.hid (fun i (hi : i < ns.length) => (show atZ (genL ns.length (midI ls k i)) i = (lab ls k i : Nat) from by rw [genL_at _ hi]; unfold midI; rw [if_neg (Nat.lt_irrefl _)]; rfl))
          have HMZ := Lib.hid (midI_zero ls k ns.length)
          have HMF := Lib.hid (midI_full ls k ns.length)
          unfold labI at c0 c1
          generalize lab ls k p = la at *
          generalize lab ls k q = lb at *
          have e1 := min_if (la : Int) (lb : Int)
          have e2 := max_if (la : Int) (lb : Int)
          have hmx : max (la : Int) (lb : Int) = ((max la lb : Nat) : Int) := by omega
          have hmn : min (la : Int) (lb : Int) = ((min la lb : Nat) : Int) := by omega
          rw [hmn] at e1
          rw [hmx] at e2
          have p1 : (0 : Int) ≤ p := by omega
          have p2 : (p : Int) < (ns.length : Int) := by omega
          have p3 : (0 : Int) ≤ q := by omega
          have p4 : (q : Int) < (ns.length : Int) := by omega
          have p5 : (0 : Int) ≤ k := by omega
          have p6 : (k : Int) < (ls.length : Int) := by omega
          generalize hma : max la lb = ma at *
          generalize hmi : min la lb = mi at *
          have e3 : (if lb < la then (lb : Int) else (la : Int)) = (mi : Int) := by rw [← hmi]; split <;> omega
          have e4 : (if la < lb then (lb : Int) else (la : Int)) = (ma : Int) := by rw [← hma]; split <;> omega
          clear hma hmi hmx hmn hgl
          go_wp2_with fail
          go_loopw [8] (fun i wr => ∃ j : Nat, j ≤ ns.length ∧ i = .int .i64 j ∧ Ints wr (w.heap.size + 1) (.slice (some ⟨g, 0, none⟩) ns.length cp) (genL ns.length (midI ls k j)) ∧ Held w wr [(w.heap.size, 0, .slice A ns.length c), (w.heap.size, 1, .slice (some ⟨b2, o2, none⟩) ls.length c2)]) (fun i _ => ns.length - (intOf i).toNat)
          case atStart => exact ⟨0, Nat.zero_le _, rfl, by rw [HMZ.out]; exact HOWN.out, H1.out⟩
          case round =>
            clear HOWN H1 x0 x1 l0 l1 c0 c1 hgl0 hgB
            obtain ⟨j, hj, rfl, hown, hh⟩ := hrel
            have HOWN := Lib.hid hown; clear hown
            have H1 := Lib.hid hh; clear hh
            obtain ⟨x0, x1, _⟩ := H1.out.1
            by_cases hjl : j < ns.length
            · have hgl := genL_len ns.length (midI ls k j)
              obtain ⟨c0, f0, hgl0, hgB, -⟩ := HOWN.out.at_ (j := j) (by omega)
              rw [HMV.out j hjl] at c0
              have HN2 := Lib.hid (HMN.out j hjl)
              have HSET := Lib.hid (HOWN.out.set_ hgl.symm j (mi : Int))
              have HH := Lib.hid (H1.out.setB (j := j) (x := .int .i64 (mi : Int)) (B := w.heap.size + 1) ⟨Nat.lt_succ_self _, Nat.lt_succ_self _, trivial⟩ hgB (Nat.le_succ _))
              generalize lab ls k j = lj at *
              have q1 : (0 : Int) ≤ j := by omega
              have q2 : (j : Int) < (ns.length : Int) := by omega
              clear hgl
              by_cases hjm : lj = ma
              · have gq : ((lj : Int) == (ma : Int)) = true := by simp [hjm]
                have HJM := Lib.hid hjm; clear hjm
                go_wp2_with fail
                exact ⟨⟨j + 1, by omega, by go_num, by rw [HN2.out, if_pos HJM.out]; exact HSET.out, HH.out⟩, by simp [intOf]; omega⟩
              · have gq : ((lj : Int) == (ma : Int)) = false := by rw [beq_eq_false_iff_ne]; omega
                have HJM := Lib.hid hjm; clear hjm
                go_wp2_with fail
                exact ⟨⟨j + 1, by omega, by go_num, by rw [HN2.out, if_neg HJM.out]; exact HOWN.out, H1.out⟩, by simp [intOf]; omega⟩
            · obtain rfl : j = ns.length := by omega
              go_wp2_with fail
              exact ⟨⟨k + 1, by omega, by go_num, by rw [← HMF.out]; exact HOWN.out, H1.out⟩, by simp [intOf]; omega⟩
        · obtain rfl : k = ls.length := by omega
          go_wp2_with fail
          go_ret
          exact ⟨_, rfl, HOWN.out.mono (by omega), H1.out.below⟩
end Go.Proofs.YtnonebfdognlmaaGreat

namespace Go.Proofs.YtnonebfdognlmaaGreat
open Go.RowKit
set_option linter.unusedVariables false
set_option linter.unusedSimpArgs false

def partI (ns ls : List Nd) (k : Int) : List Int := if hasB ns ls k = true then partL ns ls k.toNat else []
theorem partI_len (ns ls : List Nd) (k : Int) : (partI ns ls k).length ≤ 20 := by
  unfold partI
  split
  · rename_i h
    obtain ⟨_, _, _, _, h12, _⟩ := (show ∃ q : Nat, k = q ∧ q < ns.length ∧ winB ns ls = true ∧ ns.length ≤ 12 ∧ True from by
      unfold hasB at h
      simp only [Bool.and_eq_true] at h
      have h2 := (idxB_iff _ _).1 h.2
      have h3 := ((winB_iff ns ls).1 h.1).1
      exact ⟨k.toNat, by omega, by omega, h.1, h3.1.2, trivial⟩)
    have := fltN_len (fun p => decide (lab ls ls.length p = lab ls ls.length k.toNat)) ns.length
    unfold partL; omega
  · simp
def rootB (ls : List Nd) (p : Nat) : Bool := decide (lab ls ls.length p = p)
def partsI (ns ls : List Nd) : Int := if winB ns ls = true then ((fltN (rootB ls) ns.length).length : Int) else 0
def facesI (ns ls : List Nd) : Int := if winB ns ls = true then (ls.length : Int) - ns.length + 1 + partsI ns ls else 0
def panesI (ns ls : List Nd) : Int := max 0 (facesI ns ls - 1)
def forestB (ns ls : List Nd) : Bool := decide (facesI ns ls = 1)
theorem asc_head {l : List Int} (h : l.Pairwise (· < ·)) {x : Int} (hx : x ∈ l) (hm : ∀ y ∈ l, x ≤ y) : 0 < l.length ∧ atZ l 0 = x := by
  cases l with
  | nil => simp at hx
  | cons a t =>
    refine ⟨by simp, ?_⟩
    have h1 := hm a (by simp)
    rcases List.mem_cons.1 hx with e | hx
    · rw [e]; rfl
    · have := (List.pairwise_cons.1 h).1 x hx
      omega
theorem part_head {ns ls : List Nd} {q : Nat} (hq : q < ns.length) : 0 < (partL ns ls q).length ∧ atZ (partL ns ls q) 0 = (lab ls ls.length q : Nat) := by
  refine asc_head (fltN_asc _ _) ((fltN_mem _ _ _).2 ⟨lab ls ls.length q, rfl, by have := lab_le ls ls.length q; omega, by simp [lab_lab]⟩) fun y hy => ?_
  obtain ⟨p, rfl, hp, h⟩ := (fltN_mem _ _ _).1 hy
  have h' : lab ls ls.length p = lab ls ls.length q := by simpa using h
  have := lab_le ls ls.length p
  omega
theorem cnt_len (p : Nat → Bool) (m : Nat) : ((fltN p (m + 1)).length : Int) = if p m = true then ((fltN p m).length : Int) + 1 else ((fltN p m).length : Int) := by
  rw [fltN]
  split <;> simp

theorem cell_new0 (w : World) (x : Value) (T : TypeId) : (w.alloc (.cells #[x] T)).cell? ⟨w.heap.size, 0, none⟩ = some x := by rw [cell_of_cells (heap_alloc_new w _)]; rfl
theorem Ints.grown {w w' : World} {B : Nat} {v : Value} {xs : List Int} {row : Option Nat} (h : Ints w B v xs) (hg : w.grownBy w' row) (hne : ∀ k, v.ownBlock = some k → row ≠ some k) : Ints w' B v xs :=
  World.ownsRow.kept h hg (by
    cases e : v.ownBlock with
    | none => exact .inl rfl
    | some k => exact .inr (fun e2 => hne k e e2.symm))

theorem facesI_bound (ns ls : List Nd) : -100 ≤ facesI ns ls ∧ facesI ns ls ≤ 100 := by
  unfold facesI
  by_cases hw : winB ns ls = true
  · have h12 := ((winB_iff ns ls).1 hw).1.1.2
    have h20 := ((winB_iff ns ls).1 hw).1.2
    have := fltN_len (rootB ls) ns.length
    rw [if_pos hw]
    unfold partsI
    rw [if_pos hw]; omega
  · rw [if_neg hw]; omega

end Go.Proofs.YtnonebfdognlmaaGreat

namespace Go.Proofs.YtnonebfdognlmaaGreat
open Go.RowKit
set_option linter.unusedVariables false
set_option linter.unusedSimpArgs false

def cellsP : List Nd → List Value
  | [] => []
  | p :: ps => .int .i64 p.x :: .int .i64 p.y :: cellsP ps
theorem cellsP_len : ∀ xs : List Nd, (cellsP xs).length = xs.length * 2
  | [] => rfl
  | p :: ps => by simp only [cellsP, List.length_cons, cellsP_len ps]; omega
theorem cellsP_app : ∀ xs ys : List Nd, cellsP (xs ++ ys) = cellsP xs ++ cellsP ys
  | [], _ => rfl
  | p :: ps, ys => by simp only [cellsP, List.cons_append, cellsP_app ps ys]
theorem cellsP_get : ∀ (xs : List Nd) (j : Nat), j < xs.length → (cellsP xs)[j * 2]? = some (.int .i64 (atN xs j).x) ∧ (cellsP xs)[j * 2 + 1]? = some (.int .i64 (atN xs j).y)
  | p :: ps, 0, _ => ⟨rfl, rfl⟩
  | p :: ps, j + 1, h => by
    have := cellsP_get ps j (by simpa using h)
    rw [Nat.add_mul]
    exact this
theorem cellsP_set : ∀ (xs : List Nd) (j : Nat) (a b : Int), j < xs.length → ((cellsP xs).set (j * 2) (.int .i64 a)).set (j * 2 + 1) (.int .i64 b) = cellsP (xs.set j ⟨a, b⟩)
  | p :: ps, 0, _, _, _ => rfl
  | p :: ps, j + 1, a, b, h => by
    have := cellsP_set ps j a b (by simpa using h)
    rw [Nat.add_mul]
    simp only [cellsP, List.set_cons_succ, Nat.reduceMul]
    rw [← this]
theorem cellsP_one (xs : List Nd) : ∀ u ∈ cellsP xs, u.oneCell' = true := by
  induction xs with
  | nil => simp [cellsP]
  | cons p ps ih =>
    intro u hu
    simp only [cellsP, List.mem_cons] at hu
    rcases hu with rfl | rfl | hu
    · rfl
    · rfl
    · exact ih u hu

/-- The slice v reads as the pairs xs; its memory is a block of its own from B on. -/
def Own (w : World) (B : Nat) (T : TypeId) (v : Value) (xs : List Nd) : Prop := w.ownsRow B T 2 v xs.length (cellsP xs)
theorem Own.nil (w : World) (B : Nat) (T : TypeId) : Own w B T (.slice none 0 0) [] := World.ownsRow_nil w B _ 2
theorem Own.made (w : World) (b B : Nat) (T : TypeId) (hb : b = w.heap.size) (hB : B ≤ b) : Own (w.alloc (.cells #[] T)) B T (.slice (some ⟨b, 0, none⟩) 0 0) [] := by
  subst hb
  exact World.ownsRow_made _ _ _ hB (by unfold maxLen; omega) rfl
theorem Own.own {w : World} {B : Nat} {T : TypeId} {v : Value} {xs : List Nd} (h : Own w B T v xs) : ∀ k, v.ownBlock = some k → B ≤ k ∧ k < w.heap.size := World.ownsRow.lt h
theorem Own.step {w w' : World} {B : Nat} {T : TypeId} {v : Value} {xs : List Nd} (h : Own w B T v xs) (hb : Below w.heap.size w w') : Own w' B T v xs :=
  World.ownsRow.kept h (row := none) ⟨hb.os, hb.tape, hb.output, hb.size, fun k hk _ => hb.block k (by omega)⟩ (by cases v.ownBlock <;> simp)
theorem Own.mono {w : World} {B b' : Nat} {T : TypeId} {v : Value} {xs : List Nd} (h : Own w B T v xs) (hb : b' ≤ B) : Own w b' T v xs := by
  refine ⟨h.1, ?_⟩
  rcases h.2 with h0 | ⟨g, cap, cur, hv, hg, r⟩
  · exact .inl h0
  · exact .inr ⟨g, cap, cur, hv, Nat.le_trans hb hg, r⟩
theorem Own.keep {w w' : World} {B : Nat} {T : TypeId} {v : Value} {xs : List Nd} (h : Own w B T v xs) (hk : ∀ k, v.ownBlock = some k → w'.heap[k]? = w.heap[k]?) : Own w' B T v xs := by
  refine ⟨h.1, ?_⟩
  rcases h.2 with h0 | ⟨g, cap, cur, hv, hb, hg, r⟩
  · exact .inl h0
  · exact .inr ⟨g, cap, cur, hv, hb, (hk g (by rw [hv]; rfl)).trans hg, r⟩
theorem Own.form {w : World} {B : Nat} {T : TypeId} {v : Value} {xs : List Nd} (h : Own w B T v xs) :
    ∃ a cap, v = .slice a xs.length cap ∧ xs.length ≤ cap ∧ cap ≤ maxLen ∧ ((a = none ∧ xs = []) ∨ ∃ g, a = some ⟨g, 0, none⟩ ∧ B ≤ g ∧ g < w.heap.size ∧
      ∀ j, j < xs.length → w.cell? ⟨g, j * 2, none⟩ = some (.int .i64 (atN xs j).x) ∧ w.cell? ⟨g, j * 2 + 1, none⟩ = some (.int .i64 (atN xs j).y) ∧ w.frozen? ⟨g, j * 2, none⟩ = false ∧ w.frozen? ⟨g, j * 2 + 1, none⟩ = false) := by
  have H := h
  unfold Own at h
  rcases h.2 with ⟨rfl, h0⟩ | ⟨g, cap, cur, rfl, hb, hg, hnc, hcm, hcs, ht⟩
  · exact ⟨none, 0, by rw [h0], by rw [h0]; exact Nat.le_refl _, by unfold maxLen; omega, .inl ⟨rfl, List.eq_nil_of_length_eq_zero h0⟩⟩
  · refine ⟨some ⟨g, 0, none⟩, cap, rfl, hnc, hcm, .inr ⟨g, rfl, hb, lt_of_block hg, fun j hj => ?_⟩⟩
    have hc := cellsP_get xs j hj
    exact ⟨by rw [World.ownsRow.cellAt H _ (by omega)]; exact hc.1, by rw [World.ownsRow.cellAt H _ (by omega)]; exact hc.2, World.ownsRow.frozenAt H _, World.ownsRow.frozenAt H _⟩
theorem Own.prs {w : World} {B : Nat} {T : TypeId} {v : Value} {xs : List Nd} (h : Own w B T v xs) : Prs w v xs := by
  obtain ⟨a, cap, rfl, hc, hm, hx⟩ := h.form
  refine ⟨a, cap, rfl, hc, hm, fun h0 => ?_⟩
  rcases hx with ⟨_, rfl⟩ | ⟨g, rfl, _, hlt, hcs⟩
  · simp at h0
  · refine ⟨g, 0, rfl, hlt, fun k hk => ?_⟩
    rw [Nat.zero_add]
    exact ⟨(hcs k hk).1, (hcs k hk).2.1⟩
theorem Own.more {w' : World} {B : Nat} {T : TypeId} {v : Value} {xs ys : List Nd} (h : w'.ownsRow B T 2 v (xs.length + ys.length) (cellsP xs ++ cellsP ys)) : Own w' B T v (xs ++ ys) := by
  unfold Own
  rw [List.length_append, cellsP_app]
  exact h
theorem prs_news {w : World} {A : Addr} {c : Nat} {xs : List Nd} (h : Prs w (.slice (some A) xs.length c) xs) (h0 : 0 < xs.length) : ∀ j u, (cellsP xs)[j]? = some u → w.cell? (A.add j) = some u := by
  obtain ⟨A', c', he, _, _, hx⟩ := h
  obtain ⟨b, o, hA, _, hcs⟩ := hx h0
  injection he with e1 _ _
  rw [← e1] at hA
  injection hA with hA
  subst hA
  intro j u hu
  have hj : j < xs.length * 2 := by
    rw [← cellsP_len]
    exact (List.getElem?_eq_some_iff.1 hu).1
  have hg := cellsP_get xs (j / 2) (by omega)
  have hc := hcs (j / 2) (by omega)
  rw [Go.WideShapes.add_plain]
  by_cases e : j % 2 = 0
  · rw [show j = j / 2 * 2 by omega] at hu ⊢
    rw [hg.1] at hu
    rw [← hu]
    exact hc.1
  · rw [show j = j / 2 * 2 + 1 by omega] at hu ⊢
    rw [hg.2] at hu
    rw [← hu, ← Nat.add_assoc]
    exact hc.2
theorem grown_belowP {B : Nat} {W W' : World} {T : TypeId} {v : Value} {xs : List Nd} (h : Own W B T v xs) (hB : B ≤ W.heap.size) (hg : W.grownBy W' v.ownBlock) : Below B W W' :=
  (Below.refl B W).grown hg hB fun k e => (h.own k e).1
/-- What is returned: the pairs xs in new memory. -/
def PrsNew (T : TypeId) (xs : List Nd) (w : World) (e : Ending) (w' : World) : Prop := ∃ v, e = .returned v ∧ Own w' w.heap.size T v xs ∧ Below w.heap.size w w'
end Go.Proofs.YtnonebfdognlmaaGreat

namespace Go.Proofs.YtnonebfdognlmaaGreat
open Go.RowKit
set_option linter.unusedVariables false
set_option linter.unusedSimpArgs false

/-- An empty slice in a block of its own from B on. -/
def NewE (B : Nat) (T : TypeId) (v : Value) (W : World) : Prop := ∃ b, v = .slice (some ⟨b, 0, none⟩) 0 0 ∧ B ≤ b ∧ W.heap[b]? = some (.cells #[] T (0, 0))
theorem stable_newE (B : Nat) (T : TypeId) (v : Value) : Stable fun W => NewE B T v W := fun _ _ ⟨b, h1, h2, h3⟩ hb => ⟨b, h1, h2, (hb.block b (lt_of_block h3)).trans h3⟩
theorem stable_own (B : Nat) (T : TypeId) (v : Value) (xs : List Nd) : Stable fun W => Own W B T v xs := fun _ _ h hb => h.step hb

section
variable {P : Program}
theorem run_append_empty {w : World} {B g : Nat} {t ty e : TypeId} {i : TypeInfo} {z v : Value} {xs : List Nd} (ht : P.underlying t = some (.slice e)) (hi : P.info? e = some i) (hz : i.zero = some z)
    (hsize : i.size = 2) (hby : i.bytes = 16) (hzs : z.cells.size = 2) (hg : w.heap[g]? = some (.cells #[] e (0, 0))) (hB : B ≤ g) (hv : Prs w v xs) (hlen : xs.length ≤ 1048576) :
    ∃ v' w', (Builtin.append_ #[t, t] ty #[.slice (some ⟨g, 0, none⟩) 0 0, v]).run P w = .ok v' w' ∧ Own w' B e v' xs ∧ Below w.heap.size w w' := by
  have hgl := lt_of_block hg
  have hown : w.ownsRow B e 2 (.slice (some ⟨g, 0, none⟩) 0 0) 0 [] := ⟨by simp, .inr ⟨g, 0, #[], rfl, hB, hg, Nat.le_refl _, Nat.zero_le _, rfl, rfl⟩⟩
  have HV := hv
  obtain ⟨A, c, rfl, hl, hc, hx⟩ := hv
  by_cases h0 : xs.length = 0
  · obtain rfl : xs = [] := List.eq_nil_of_length_eq_zero h0
    cases A with
    | none =>
      refine ⟨_, w, ?_, hown, Below.refl _ _⟩
      simp [Builtin.append_, run_underlying ht, sizeOf, typeInfo, hi, Builtin.lenOf, Builtin.firstCells, storeCells]
    | some a =>
      have hr := run_append_room (P := P) w t ty e i ht hi g 0 0 #[] hg a 0 c [] (by simp) (fun j u h => by simp at h) (fun u h => by simp at h) (Nat.le_refl _) (by simp)
      simp only [Nat.zero_mul, Nat.add_zero] at hr
      refine ⟨_, _, hr, ?_, ⟨rfl, rfl, rfl, by simp [World.setRow], fun k hk => ?_⟩⟩
      · exact ⟨by simp [cellsP], .inr ⟨g, 0, _, rfl, hB, setRow_heap w g #[] _ e _ hg, Nat.le_refl _, Nat.zero_le _, rfl, by simp [cellsP]⟩⟩
      · by_cases hkg : k = g
        · subst hkg; rw [setRow_heap w k #[] _ e _ hg, hg]; rfl
        · exact setRow_other w g k _ hkg
  · obtain ⟨b, o, rfl, hbl, hcs⟩ := hx (by omega)
    have hn := prs_news HV (by omega)
    have hr := run_append_grow (P := P) w t ty e i z ht hi hz ⟨g, 0, none⟩ 0 0 [] (by simp) (fun j u h => by simp at h) ⟨b, o, none⟩ xs.length c (cellsP xs) (by rw [cellsP_len, hsize]) hn (by omega) (by omega)
      (by rw [Nat.zero_add, nextslicecap_zero (by omega), hby]; omega)
    refine ⟨_, _, hr, ?_, (Below.refl _ _).drew.alloc (by simp) _⟩
    have hge := grownCap_ge w (0 + xs.length) 0 e
    have hcm := grownCap_le_maxLen w (0 + xs.length) 0 e (by unfold maxLen; omega)
    unfold Own
    refine ⟨cellsP_len _, .inr ⟨w.heap.size, _, _, by rw [Nat.zero_add], by omega, heap_alloc_new w.drew _, ?_, ?_, ?_, ?_⟩⟩
    · simpa using hge
    · simpa using hcm
    · simp only [Array.size_append, List.size_toArray, size_zeroCells, hzs, List.length_nil, cellsP_len, Nat.zero_add] at hge ⊢
      omega
    · rw [← cellsP_len]
      simp
theorem wpList_append_run {ops : Array Oper} {rest : List Oper} {o : Oper} {a : Act} {w : World} {Q : Exit → Act → World → Prop} (hgd : o.guard = none) (s x : Operand) (t : TypeId)
    (ho : o.op = .call { callee := .builtin .append, args := #[s, x], argTypes := #[t, t] }) (v' : Value) (w' : World) (hr : (Builtin.append_ #[t, t] o.type #[a.eval s, a.eval x]).run P w = .ok v' w')
    (h : wpList P ops Q rest (a.put o.dst v') w') : wpList P ops Q (o :: rest) a w :=
  wpList_plain hgd fun _ hK => by
    unfold Oper.wp execOp
    simp only [ho, resolve, invoke, builtin, Sem.run_bind, Sem.run_pure, Result.andThen_ok, List.map_toArray, List.map_cons, List.map_nil, hr]
    exact hK _ _ h
theorem freeR_append {ρ : Operand → Value} {o : Oper} {w : World} {s x : Operand} {t : TypeId} {B : Nat} {e : TypeId} {i : TypeInfo} {z u v : Value} {xs : List Nd} (hu : NewE B e u w) (hv : Prs w v xs) (hlen : xs.length ≤ 1048576)
    (ht : P.underlying t = some (.slice e)) (hi : P.info? e = some i) (hz : i.zero = some z) (hsize : i.size = 2) (hby : i.bytes = 16) (hzs : z.cells.size = 2)
    (ho : o.op = .call { callee := .builtin .append, args := #[s, x], argTypes := #[t, t] }) (hs : ρ s = u) (hx : ρ x = v) : FreeR P (fun u W => Own W B e u xs) w ((execOp ρ o).run P w) := by
  obtain ⟨b, rfl, hB, hg⟩ := hu
  obtain ⟨v', w', hr, h1, h2⟩ := run_append_empty (ty := o.type) ht hi hz hsize hby hzs hg hB hv hlen
  unfold execOp
  simp only [ho, resolve, invoke, builtin, Sem.run_bind, Sem.run_pure, Result.andThen_ok, List.map_toArray, List.map_cons, List.map_nil, hs, hx, hr]
  exact ⟨h1, h2⟩
theorem freeR_newE {w : World} {B : Nat} {T : TypeId} {r : Result Next} (h : r = .ok (.value (.slice (some ⟨w.heap.size, 0, none⟩) 0 0)) (w.alloc (.cells #[] T))) (hB : B ≤ w.heap.size) : FreeR P (NewE B T) w r := by
  subst h
  exact ⟨⟨_, rfl, hB, heap_alloc_new w _⟩, (Below.refl _ _).alloc (Nat.le_refl _) _⟩
end

/-- Block b holds n cells of type T. -/
def BlkN (b : Nat) (T : TypeId) (n : Nat) (W : World) : Prop := ∃ cs, W.heap[b]? = some (.cells cs T (0, 0)) ∧ cs.size = n
def BlkIs (b : Nat) (T : TypeId) (cells : Array Value) (W : World) : Prop := W.heap[b]? = some (.cells cells T (0, 0))
theorem stable_blkN (b : Nat) (T : TypeId) (n : Nat) : Stable fun W => BlkN b T n W := fun _ _ ⟨cs, h1, h2⟩ hb => ⟨cs, (hb.block b (lt_of_block h1)).trans h1, h2⟩
theorem stable_blkIs (b : Nat) (T : TypeId) (cells : Array Value) : Stable fun W => BlkIs b T cells W := fun _ _ h hb => (hb.block b (lt_of_block h)).trans h
theorem Own.setRow {W : World} {B b n : Nat} {T U : TypeId} {v : Value} {xs : List Nd} (h : Own W B T v xs) (hb : BlkN b U n W) (hne : T ≠ U) (cs : Array Value) : Own (W.setRow b cs) B T v xs := by
  refine h.keep fun k hk => setRow_other W b k cs fun e => ?_
  rcases h.2 with ⟨hv, _⟩ | ⟨g, cap, cur, hv, _, hg, _⟩
  · rw [hv] at hk; cases hk
  · rw [hv] at hk
    injection hk with hk
    obtain ⟨cs', hc, _⟩ := hb
    have e' : g = b := hk.trans e
    rw [e'] at hg
    rw [hg] at hc
    injection hc with hc
    injection hc with _ hc _
    exact hne hc
/-- Two slices of different element types lie in different blocks. -/
theorem Own.apart {W : World} {B B' : Nat} {T U : TypeId} {v u : Value} {xs ys : List Nd} (h : Own W B T v xs) (k : Own W B' U u ys) (hne : T ≠ U) : ∀ g, v.ownBlock = some g → u.ownBlock ≠ some g := by
  intro g hv hu
  rcases h.2 with ⟨rfl, _⟩ | ⟨b, cap, cur, rfl, _, hb, _⟩
  · cases hv
  · rcases k.2 with ⟨rfl, _⟩ | ⟨b', cap', cur', rfl, _, hb', _⟩
    · cases hu
    · injection hv with hv
      injection hu with hu
      have e : b = b' := hv.trans hu.symm
      rw [e, hb'] at hb
      injection hb with hb
      injection hb with _ hb _
      exact hne hb.symm
theorem Held.setRowAt {w W : World} {fs : List (Nat × Nat × Value)} {b : Nat} (h : Held w W fs) (hd : ∀ f ∈ fs, f.1 ≠ b) (hb : w.heap.size ≤ b) (cs : Array Value) : Held w (W.setRow b cs) fs := by
  refine ⟨?_, by rw [show (W.setRow b cs).heap.size = W.heap.size from by simp [World.setRow]]; exact h.2.1, h.2.2.trans ⟨rfl, rfl, rfl, by simp [World.setRow], fun k hk => setRow_other W b k cs (by omega)⟩⟩
  have hc := h.1
  clear h
  induction fs with
  | nil => trivial
  | cons f fs ih =>
    obtain ⟨b', o, v⟩ := f
    exact ⟨(World.cell?_of_block (setRow_other W b b' cs (hd _ (List.mem_cons_self ..)))).trans hc.1, ih (fun f hf => hd f (List.mem_cons_of_mem _ hf)) hc.2⟩

section
variable {P : Program} {Q : Exit → Act → World → Prop} {md : Region.Mode}
theorem storeK {l rest : List Oper} {i : Nat} {oi : Oper} {fuel : Nat} {listed : Array Bool} {a : Act} {b n : Nat} {T : TypeId} {G : World → Prop} {ty : TypeId} {x y : Operand} (cells : Array Value)
    (hst : Stable G) (hb : ∀ W, G W → BlkN b T n W) (hk : ∀ W, G W → G (W.setRow b cells))
    (hi : l.drop i = oi :: rest) (hr : Region.ready md l.toArray listed = [i]) (hw : Region.wanted oi (yielded l.toArray a.tmps) = true) (ho : oi.op = .store ty x y) (hx : a.eval x = .pointer (some ⟨b, 0, none⟩)) (hy : a.eval y = .agg cells)
    (hn : cells.size = n) (hinfo : (P.info? ty).map (·.size) = some cells.size) (h1 : cells.all (·.oneCell') = true)
    (h : wpAnyW P md l.toArray Q fuel (listed.setIfInBounds i true) (a.put oi.dst undef) (fun W => G W ∧ BlkIs b T cells W)) :
    wpAnyW P md l.toArray Q (fuel + 1) listed a G := by
  subst hn
  refine effW (v := undef) (fun W => BlkIs b T cells W) hst (stable_blkIs _ _ _) hi hr hw (fun W hG => ?_) h
  obtain ⟨cs, hc, hs⟩ := hb W hG
  unfold execOp
  simp only [ho, hx, hy, Instr.storeAt, Instr.sureAddr, Sem.run_bind, Sem.run_pure, Result.andThen_ok, run_storeVar_row W b T ty cs cells hc hinfo hs h1]
  exact ⟨rfl, hk W hG, setRow_heap W b cs cells T _ hc⟩
theorem BlkN.setRow {b n : Nat} {T : TypeId} {W : World} (h : BlkN b T n W) {cs : Array Value} (hn : cs.size = n) : BlkN b T n (W.setRow b cs) := by
  obtain ⟨c0, hc, _⟩ := h
  exact ⟨cs, setRow_heap W b c0 cs T _ hc, hn⟩
/-- Either of two operations may come up. -/
theorem freeOr {l : List Oper} {i j : Nat} {fuel : Nat} {listed : Array Bool} {a : Act} {G : World → Prop} (hr : Region.ready md l.toArray listed = [i, j])
    (hi : ∀ w, G w → wpOp P l.toArray Q i (fun a' w' => ∃ G' : World → Prop, Stable G' ∧ (∀ x, G' x → G x) ∧ G' w' ∧ wpAnyW P md l.toArray Q fuel (listed.setIfInBounds i true) a' G') a w)
    (hj : ∀ w, G w → wpOp P l.toArray Q j (fun a' w' => ∃ G' : World → Prop, Stable G' ∧ (∀ x, G' x → G x) ∧ G' w' ∧ wpAnyW P md l.toArray Q fuel (listed.setIfInBounds j true) a' G') a w) :
    wpAnyW P md l.toArray Q (fuel + 1) listed a G := by
  refine ⟨fun h0 => (by rw [hr] at h0; cases h0), fun k hk w hG => ?_⟩
  rw [hr] at hk
  rcases List.mem_cons.1 hk with rfl | hk
  · exact hi w hG
  · obtain rfl : k = j := by simpa using hk
    exact hj w hG
theorem freeOp {l rest : List Oper} {i : Nat} {oi : Oper} {fuel : Nat} {listed : Array Bool} {a : Act} {G : World → Prop} (R : Value → World → Prop) (hst : Stable G) (hR : ∀ v, Stable (R v)) (hi : l.drop i = oi :: rest)
    (hw : Region.wanted oi (yielded l.toArray a.tmps) = true) (hy : ∀ w, G w → FreeR P R w ((execOp a.eval oi).run P w))
    (h : ∀ v, (∃ W, R v W) → wpAnyW P md l.toArray Q fuel (listed.setIfInBounds i true) (a.put oi.dst v) (fun x => G x ∧ R v x)) :
    ∀ w, G w → wpOp P l.toArray Q i (fun a' w' => ∃ G' : World → Prop, Stable G' ∧ (∀ x, G' x → G x) ∧ G' w' ∧ wpAnyW P md l.toArray Q fuel (listed.setIfInBounds i true) a' G') a w := by
  intro w hG
  unfold wpOp
  simp only [get_of_drop hi, hw, if_true]
  refine .inl ?_
  unfold Oper.wp
  have hd := hy w hG
  generalize (execOp a.eval oi).run P w = r at *
  cases r with
  | ok n w' =>
    cases n <;> simp only [FreeR] at hd <;> simp only [Oper.upon]
    case value u => exact ⟨_, hst.and (hR u), fun _ hx => hx.1, ⟨hst _ _ hG hd.2, hd.1⟩, h u ⟨_, hd.1⟩⟩
    case enter f args => exact hd.mono fun e w'' he => by obtain ⟨u, rfl, h1, h2⟩ := he; exact ⟨_, hst.and (hR u), fun _ hx => hx.1, ⟨hst _ _ hG h2, h1⟩, h u ⟨_, h1⟩⟩
  | halt x w' => simp [FreeR] at hd
theorem freeX {l rest : List Oper} {i : Nat} {oi : Oper} {fuel : Nat} {listed : Array Bool} {a : Act} {G : World → Prop} (R : Value → World → Prop) (hst : Stable G) (hR : ∀ v, Stable (R v)) (hi : l.drop i = oi :: rest)
    (hr : Region.ready md l.toArray listed = [i]) (hw : Region.wanted oi (yielded l.toArray a.tmps) = true) (hy : ∀ w, G w → FreeR P R w ((execOp a.eval oi).run P w))
    (h : ∀ v, (∃ W, R v W) → wpAnyW P md l.toArray Q fuel (listed.setIfInBounds i true) (a.put oi.dst v) (fun x => G x ∧ R v x)) : wpAnyW P md l.toArray Q (fuel + 1) listed a G := by
  refine ⟨fun h0 => (by rw [hr] at h0; cases h0), fun j hj w hG => ?_⟩
  rw [hr] at hj
  obtain rfl : j = i := by simpa using hj
  exact freeOp R hst hR hi hw hy h w hG
end
end Go.Proofs.YtnonebfdognlmaaGreat

namespace Go.Proofs.YtnonebfdognlmaaGreat
open Go.RowKit
set_option linter.unusedVariables false
set_option linter.unusedSimpArgs false

def wholeB (ns ls : List Nd) : Bool := winB ns ls && decide (0 < ls.length) && decide ((partL ns ls 0).length = ns.length)
theorem fltN_full (p : Nat → Bool) : ∀ n, (fltN p n).length = n ↔ ∀ i, i < n → p i = true
  | 0 => by simp [fltN]
  | n + 1 => by
    have ih := fltN_full p n
    have hl := fltN_len p n
    unfold fltN
    by_cases h : p n = true
    · rw [if_pos h, List.length_append, List.length_singleton]
      constructor
      · intro e i hi
        by_cases hin : i = n
        · subst hin; exact h
        · exact ih.1 (by omega) i (by omega)
      · intro hh
        have := ih.2 fun i hi => hh i (by omega)
        omega
    · rw [if_neg h]
      constructor
      · intro e; omega
      · intro hh; exact absurd (hh n (Nat.lt_succ_self _)) h
theorem whole_iff (ns ls : List Nd) : (partL ns ls 0).length = ns.length ↔ ∀ i, i < ns.length → lab ls ls.length i = 0 := by
  have h0 : lab ls ls.length 0 = 0 := by have := lab_le ls ls.length 0; omega
  unfold partL
  rw [fltN_full]
  constructor
  · intro h i hi
    have := h i hi
    simp only [decide_eq_true_eq] at this
    omega
  · intro h i hi
    rw [h i hi, h0]; rfl

set_option maxRecDepth 100000 in
set_option maxHeartbeats 2000000 in
theorem implWhole (ns ls : List Nd) (vn vl : Value) (w : World) (hn : Prs w vn ns) (hl : Prs w vl ls) :
    Calls Tryz.prog 83 #[.agg #[vn, vl]] w (BoolIs (wholeB ns ls) w) := by
  have HN := Lib.hid hn
  have HL := Lib.hid hl
  have hlen := hn.len
  obtain ⟨A, c, rfl⟩ := prs_form2 hn
  obtain ⟨A2, c2, rfl⟩ := prs_form2 hl
  clear hn hl
  have H0 := Lib.hid (held_pair w (.slice A ns.length c) (.slice A2 ls.length c2) 32)
  have HW := Lib.hid (fun w h1 h2 => implWin ns ls (.slice A ns.length c) (.slice A2 ls.length c2) w h1 h2)
  have HD := Lib.hid (drawingOf_any A A2 ns.length c ls.length c2)
  unfold ValIs at HD
  by_cases hw : winB ns ls = true
  · have h20 := ((winB_iff ns ls).1 hw).1.2
    have h1 := ((winB_iff ns ls).1 hw).1.1.1
    by_cases hl0 : 0 < ls.length
    · have hr : wholeB ns ls = decide ((partL ns ls 0).length = ns.length) := by
        unfold wholeB; rw [hw, decide_eq_true hl0]; rfl
      have HP := Lib.hid (fun W (hB : Below w.heap.size w W) => (implPart ns ls (.slice A ns.length c) (.slice A2 ls.length c2) 0 W (HN.out.step hB) (HL.out.step hB) hw h1).mono (R' := fun e w' => ∃ v, e = .returned v ∧ Ints w' w.heap.size v (partL ns ls 0) ∧ Below W.heap.size W w') fun e w' ⟨v, he, ho, hb⟩ => ⟨v, he, ho.mono hB.size, hb⟩)
      have hpl : (partL ns ls 0).length ≤ ns.length := fltN_len _ _
      rw [hw] at HW
      clear hw
      have g0 : (0 : Int) < (ls.length : Int) := by omega
      generalize wholeB ns ls = r at *
      generalize partL ns ls 0 = ps at *
      by_cases hq : ps.length = ns.length
      · have HR := Lib.hid (show r = true from by rw [hr, decide_eq_true hq])
        have gq : ((ps.length : Int) == (ns.length : Int)) = true := by simp [hq]
        clear hr hq
        go_enter Tryz.func83, Tryz.ntmps83
        go_wp2_with fail
        refine regionW (fun W => Held _ W [(w.heap.size, 0, .slice A ns.length c), (w.heap.size, 1, .slice A2 ls.length c2)]) (by kernel_rfl) H0.out.drew ?_
        refine takeW (i := 0) (v := ?_) (Stable.held _ _) rfl (by kernel_rfl) (by kernel_rfl) (by kernel_rfl) (fun _ _ _ h => h) ?_ ?_
        rotate_left
        · first | (refine Or.inl ⟨by rfl, fun W hS => detR_value (w' := W) ?_ (Below.refl _ _)⟩; have hH := hS; obtain ⟨x0, x1, _⟩ := hH.1; go_simp; first | done | with_reducible rfl) | fail
        simp only [Act.put, List.setIfInBounds_toArray, List.set_cons_zero, List.set_cons_succ]
        refine takeW (i := 1) (v := ?_) (Stable.held _ _) rfl (by kernel_rfl) (by kernel_rfl) (by kernel_rfl) (fun _ _ _ h => h) ?_ ?_
        rotate_left
        · first | (refine Or.inl ⟨by rfl, fun W hS => ?_⟩; have hH := hS; refine detR_call (w' := W) (f := ?_) (args := ?_) ?_ ?_; rotate_left 2; (go_simp; (refine ⟨?_, ?_⟩ <;> with_reducible rfl)); (first | (with_reducible refine (HW.out _ (HN.out.step hH.below) (HL.out.step hH.below)).mono ?_) | fail); (first | (rintro e wn ⟨rfl, hb⟩; refine ⟨?_, hb⟩; with_reducible rfl) | (rintro e wn ⟨rfl, rfl⟩; refine ⟨?_, Below.refl _ _⟩; with_reducible rfl) | fail)) | fail
        simp only [Act.put, List.setIfInBounds_toArray, List.set_cons_zero, List.set_cons_succ]
        refine takeW (i := 2) (v := ?_) (Stable.held _ _) rfl (by kernel_rfl) (by kernel_rfl) (by kernel_rfl) (fun _ _ _ h => h) ?_ ?_
        rotate_left
        · first | (refine Or.inl ⟨by rfl, fun W hS => detR_value (w' := W) ?_ (Below.refl _ _)⟩; have hH := hS; obtain ⟨x0, x1, _⟩ := hH.1; go_simp; first | done | with_reducible rfl) | fail
        simp only [Act.put, List.setIfInBounds_toArray, List.set_cons_zero, List.set_cons_succ]
        refine takeW (i := 3) (v := ?_) (Stable.held _ _) rfl (by kernel_rfl) (by kernel_rfl) (by kernel_rfl) (fun _ _ _ h => h) ?_ ?_
        rotate_left
        · first | (refine Or.inr ⟨by rfl, ?_⟩; with_reducible rfl) | (refine Or.inl ⟨by rfl, fun W hS => detR_value (w' := W) ?_ (Below.refl _ _)⟩; have hH := hS; obtain ⟨x0, x1, _⟩ := hH.1; go_simp; first | done | with_reducible rfl) | fail
        simp only [Act.put, List.setIfInBounds_toArray, List.set_cons_zero, List.set_cons_succ]
        refine takeW (i := 4) (v := ?_) (Stable.held _ _) rfl (by kernel_rfl) (by kernel_rfl) (by kernel_rfl) (fun _ _ _ h => h) ?_ ?_
        rotate_left
        · first | (refine Or.inr ⟨by rfl, ?_⟩; with_reducible rfl) | (refine Or.inl ⟨by rfl, fun W hS => detR_value (w' := W) ?_ (Below.refl _ _)⟩; have hH := hS; obtain ⟨x0, x1, _⟩ := hH.1; go_simp; first | done | with_reducible rfl) | fail
        simp only [Act.put, List.setIfInBounds_toArray, List.set_cons_zero, List.set_cons_succ]
        refine takeW (i := 5) (v := ?_) (Stable.held _ _) rfl (by kernel_rfl) (by kernel_rfl) (by kernel_rfl) (fun _ _ _ h => h) ?_ ?_
        rotate_left
        · first | (refine Or.inr ⟨by rfl, ?_⟩; with_reducible rfl) | (refine Or.inl ⟨by rfl, fun W hS => detR_value (w' := W) ?_ (Below.refl _ _)⟩; have hH := hS; obtain ⟨x0, x1, _⟩ := hH.1; go_simp; first | done | with_reducible rfl) | fail
        simp only [Act.put, List.setIfInBounds_toArray, List.set_cons_zero, List.set_cons_succ]
        refine takeW (i := 6) (v := ?_) (Stable.held _ _) rfl (by kernel_rfl) (by kernel_rfl) (by kernel_rfl) (fun _ _ _ h => h) ?_ ?_
        rotate_left
        · first | (refine Or.inr ⟨by rfl, ?_⟩; with_reducible rfl) | (refine Or.inl ⟨by rfl, fun W hS => detR_value (w' := W) ?_ (Below.refl _ _)⟩; have hH := hS; obtain ⟨x0, x1, _⟩ := hH.1; go_simp; first | done | with_reducible rfl) | fail
        simp only [Act.put, List.setIfInBounds_toArray, List.set_cons_zero, List.set_cons_succ]
        refine takeW (i := 7) (v := ?_) (Stable.held _ _) rfl (by kernel_rfl) (by kernel_rfl) (by kernel_rfl) (fun _ _ _ h => h) ?_ ?_
        rotate_left
        · first | (refine Or.inl ⟨by rfl, fun W hS => detR_value (w' := W) ?_ (Below.refl _ _)⟩; have hH := hS; obtain ⟨x0, x1, _⟩ := hH.1; go_simp; first | done | with_reducible rfl) | fail
        simp only [Act.put, List.setIfInBounds_toArray, List.set_cons_zero, List.set_cons_succ]
        refine takeW (i := 8) (v := ?_) (Stable.held _ _) rfl (by kernel_rfl) (by kernel_rfl) (by kernel_rfl) (fun _ _ _ h => h) ?_ ?_
        rotate_left
        · first | (refine Or.inl ⟨by rfl, fun W hS => detR_value (w' := W) ?_ (Below.refl _ _)⟩; have hH := hS; obtain ⟨x0, x1, _⟩ := hH.1; go_simp; first | done | with_reducible rfl) | fail
        simp only [Act.put, List.setIfInBounds_toArray, List.set_cons_zero, List.set_cons_succ]
        refine takeW (i := 9) (v := ?_) (Stable.held _ _) rfl (by kernel_rfl) (by kernel_rfl) (by kernel_rfl) (fun _ _ _ h => h) ?_ ?_
        rotate_left
        · first | (refine Or.inr ⟨by rfl, ?_⟩; with_reducible rfl) | (refine Or.inl ⟨by rfl, fun W hS => detR_value (w' := W) ?_ (Below.refl _ _)⟩; have hH := hS; obtain ⟨x0, x1, _⟩ := hH.1; go_simp; first | done | with_reducible rfl) | fail
        simp only [Act.put, List.setIfInBounds_toArray, List.set_cons_zero, List.set_cons_succ]
        refine takeW (i := 10) (v := ?_) (Stable.held _ _) rfl (by kernel_rfl) (by kernel_rfl) (by kernel_rfl) (fun _ _ _ h => h) ?_ ?_
        rotate_left
        · first | (refine Or.inr ⟨by rfl, ?_⟩; with_reducible rfl) | (refine Or.inl ⟨by rfl, fun W hS => ?_⟩; have hH := hS; refine detR_call (w' := W) (f := ?_) (args := ?_) ?_ ?_; rotate_left 2; (go_simp; (refine ⟨?_, ?_⟩ <;> with_reducible rfl)); (first | (with_reducible refine (HD.out _).mono ?_) | fail); (first | (rintro e wn ⟨rfl, hb⟩; refine ⟨?_, hb⟩; with_reducible rfl) | (rintro e wn ⟨rfl, rfl⟩; refine ⟨?_, Below.refl _ _⟩; with_reducible rfl) | fail)) | fail
        simp only [Act.put, List.setIfInBounds_toArray, List.set_cons_zero, List.set_cons_succ]
        refine takeW (i := 13) (v := ?_) (Stable.held _ _) rfl (by kernel_rfl) (by kernel_rfl) (by kernel_rfl) (fun _ _ _ h => h) ?_ ?_
        rotate_left
        · first | (refine Or.inr ⟨by rfl, ?_⟩; with_reducible rfl) | (refine Or.inl ⟨by rfl, fun W hS => detR_value (w' := W) ?_ (Below.refl _ _)⟩; have hH := hS; obtain ⟨x0, x1, _⟩ := hH.1; go_simp; first | done | with_reducible rfl) | fail
        simp only [Act.put, List.setIfInBounds_toArray, List.set_cons_zero, List.set_cons_succ]
        refine takeW (i := 14) (v := ?_) (Stable.held _ _) rfl (by kernel_rfl) (by kernel_rfl) (by kernel_rfl) (fun _ _ _ h => h) ?_ ?_
        rotate_left
        · first | (refine Or.inr ⟨by rfl, ?_⟩; with_reducible rfl) | (refine Or.inl ⟨by rfl, fun W hS => detR_value (w' := W) ?_ (Below.refl _ _)⟩; have hH := hS; obtain ⟨x0, x1, _⟩ := hH.1; go_simp; first | done | with_reducible rfl) | fail
        simp only [Act.put, List.setIfInBounds_toArray, List.set_cons_zero, List.set_cons_succ]
        refine takeW (i := 15) (v := ?_) (Stable.held _ _) rfl (by kernel_rfl) (by kernel_rfl) (by kernel_rfl) (fun _ _ _ h => h) ?_ ?_
        rotate_left
        · first | (refine Or.inr ⟨by rfl, ?_⟩; with_reducible rfl) | (refine Or.inl ⟨by rfl, fun W hS => detR_value (w' := W) ?_ (Below.refl _ _)⟩; have hH := hS; obtain ⟨x0, x1, _⟩ := hH.1; go_simp; first | done | with_reducible rfl) | fail
        simp only [Act.put, List.setIfInBounds_toArray, List.set_cons_zero, List.set_cons_succ]
        refine freeX (i := 11) (fun v W => Ints W w.heap.size v ps) (Stable.held _ _) (fun v => stable_ints w.heap.size v ps) rfl (by kernel_rfl) (by rfl) (fun W hS => ?_) (fun v hex => ?_)
        · have hH := hS; obtain ⟨x0, x1, _⟩ := hH.1; refine freeR_call (w' := W) (f := ?_) (args := ?_) ?_ ?_; rotate_left 2; (go_simp; (refine ⟨?_, ?_⟩ <;> with_reducible rfl)); exact HP.out W hH.below
        obtain ⟨WX, hex⟩ := hex
        obtain ⟨a11, c11, rfl, -, -⟩ := hex.form
        try clear hex
        try clear WX
        simp only [Act.put, List.setIfInBounds_toArray, List.set_cons_zero, List.set_cons_succ]
        refine takeW (i := 12) (v := ?_) (Stable.and (Stable.held _ _) (stable_ints w.heap.size (.slice a11 ps.length c11) ps)) rfl (by kernel_rfl) (by kernel_rfl) (by kernel_rfl) (fun _ _ _ h => h) ?_ ?_
        rotate_left
        · first | (refine Or.inr ⟨by rfl, ?_⟩; with_reducible rfl) | (refine Or.inl ⟨by rfl, fun W hS => detR_value (w' := W) ?_ (Below.refl _ _)⟩; obtain ⟨hH, r11⟩ := hS; obtain ⟨x0, x1, _⟩ := hH.1; go_simp; first | done | with_reducible rfl) | fail
        simp only [Act.put, List.setIfInBounds_toArray, List.set_cons_zero, List.set_cons_succ]
        refine takeW (i := 16) (v := ?_) (Stable.and (Stable.held _ _) (stable_ints w.heap.size (.slice a11 ps.length c11) ps)) rfl (by kernel_rfl) (by kernel_rfl) (by kernel_rfl) (fun _ _ _ h => h) ?_ ?_
        rotate_left
        · first | (refine Or.inr ⟨by rfl, ?_⟩; with_reducible rfl) | (refine Or.inl ⟨by rfl, fun W hS => detR_value (w' := W) ?_ (Below.refl _ _)⟩; obtain ⟨hH, r11⟩ := hS; obtain ⟨x0, x1, _⟩ := hH.1; go_simp; first | done | with_reducible rfl) | fail
        simp only [Act.put, List.setIfInBounds_toArray, List.set_cons_zero, List.set_cons_succ]
        refine takeW (i := 17) (v := ?_) (Stable.and (Stable.held _ _) (stable_ints w.heap.size (.slice a11 ps.length c11) ps)) rfl (by kernel_rfl) (by kernel_rfl) (by kernel_rfl) (fun _ _ _ h => h) ?_ ?_
        rotate_left
        · first | (refine Or.inl ⟨by rfl, fun W hS => detR_value (w' := W) ?_ (Below.refl _ _)⟩; obtain ⟨hH, r11⟩ := hS; obtain ⟨x0, x1, _⟩ := hH.1; go_simp; first | done | with_reducible rfl) | fail
        simp only [Act.put, List.setIfInBounds_toArray, List.set_cons_zero, List.set_cons_succ]
        refine takeW (i := 18) (v := ?_) (Stable.and (Stable.held _ _) (stable_ints w.heap.size (.slice a11 ps.length c11) ps)) rfl (by kernel_rfl) (by kernel_rfl) (by kernel_rfl) (fun _ _ _ h => h) ?_ ?_
        rotate_left
        · first | (refine Or.inl ⟨by rfl, fun W hS => detR_value (w' := W) ?_ (Below.refl _ _)⟩; obtain ⟨hH, r11⟩ := hS; obtain ⟨x0, x1, _⟩ := hH.1; go_simp; first | done | with_reducible rfl) | fail
        simp only [Act.put, List.setIfInBounds_toArray, List.set_cons_zero, List.set_cons_succ]
        refine doneW (by kernel_rfl) fun wH1 HG => ?_
        obtain ⟨hH, r11⟩ := HG
        have H1 := Lib.hid hH; clear hH
        have MH1_o11 := Lib.hid r11; clear r11
        try clear x0 x1
        go_wp2_with fail
        go_ret
        exact ⟨ret_bool (by rw [HR.out]), H1.out.below⟩
      · have HR := Lib.hid (show r = false from by rw [hr, decide_eq_false hq])
        have gq : ((ps.length : Int) == (ns.length : Int)) = false := by rw [beq_eq_false_iff_ne]; omega
        clear hr hq
        go_enter Tryz.func83, Tryz.ntmps83
        go_wp2_with fail
        refine regionW (fun W => Held _ W [(w.heap.size, 0, .slice A ns.length c), (w.heap.size, 1, .slice A2 ls.length c2)]) (by kernel_rfl) H0.out.drew ?_
        refine takeW (i := 0) (v := ?_) (Stable.held _ _) rfl (by kernel_rfl) (by kernel_rfl) (by kernel_rfl) (fun _ _ _ h => h) ?_ ?_
        rotate_left
        · first | (refine Or.inl ⟨by rfl, fun W hS => detR_value (w' := W) ?_ (Below.refl _ _)⟩; have hH := hS; obtain ⟨x0, x1, _⟩ := hH.1; go_simp; first | done | with_reducible rfl) | fail
        simp only [Act.put, List.setIfInBounds_toArray, List.set_cons_zero, List.set_cons_succ]
        refine takeW (i := 1) (v := ?_) (Stable.held _ _) rfl (by kernel_rfl) (by kernel_rfl) (by kernel_rfl) (fun _ _ _ h => h) ?_ ?_
        rotate_left
        · first | (refine Or.inl ⟨by rfl, fun W hS => ?_⟩; have hH := hS; refine detR_call (w' := W) (f := ?_) (args := ?_) ?_ ?_; rotate_left 2; (go_simp; (refine ⟨?_, ?_⟩ <;> with_reducible rfl)); (first | (with_reducible refine (HW.out _ (HN.out.step hH.below) (HL.out.step hH.below)).mono ?_) | fail); (first | (rintro e wn ⟨rfl, hb⟩; refine ⟨?_, hb⟩; with_reducible rfl) | (rintro e wn ⟨rfl, rfl⟩; refine ⟨?_, Below.refl _ _⟩; with_reducible rfl) | fail)) | fail
        simp only [Act.put, List.setIfInBounds_toArray, List.set_cons_zero, List.set_cons_succ]
        refine takeW (i := 2) (v := ?_) (Stable.held _ _) rfl (by kernel_rfl) (by kernel_rfl) (by kernel_rfl) (fun _ _ _ h => h) ?_ ?_
        rotate_left
        · first | (refine Or.inl ⟨by rfl, fun W hS => detR_value (w' := W) ?_ (Below.refl _ _)⟩; have hH := hS; obtain ⟨x0, x1, _⟩ := hH.1; go_simp; first | done | with_reducible rfl) | fail
        simp only [Act.put, List.setIfInBounds_toArray, List.set_cons_zero, List.set_cons_succ]
        refine takeW (i := 3) (v := ?_) (Stable.held _ _) rfl (by kernel_rfl) (by kernel_rfl) (by kernel_rfl) (fun _ _ _ h => h) ?_ ?_
        rotate_left
        · first | (refine Or.inr ⟨by rfl, ?_⟩; with_reducible rfl) | (refine Or.inl ⟨by rfl, fun W hS => detR_value (w' := W) ?_ (Below.refl _ _)⟩; have hH := hS; obtain ⟨x0, x1, _⟩ := hH.1; go_simp; first | done | with_reducible rfl) | fail
        simp only [Act.put, List.setIfInBounds_toArray, List.set_cons_zero, List.set_cons_succ]
        refine takeW (i := 4) (v := ?_) (Stable.held _ _) rfl (by kernel_rfl) (by kernel_rfl) (by kernel_rfl) (fun _ _ _ h => h) ?_ ?_
        rotate_left
        · first | (refine Or.inr ⟨by rfl, ?_⟩; with_reducible rfl) | (refine Or.inl ⟨by rfl, fun W hS => detR_value (w' := W) ?_ (Below.refl _ _)⟩; have hH := hS; obtain ⟨x0, x1, _⟩ := hH.1; go_simp; first | done | with_reducible rfl) | fail
        simp only [Act.put, List.setIfInBounds_toArray, List.set_cons_zero, List.set_cons_succ]
        refine takeW (i := 5) (v := ?_) (Stable.held _ _) rfl (by kernel_rfl) (by kernel_rfl) (by kernel_rfl) (fun _ _ _ h => h) ?_ ?_
        rotate_left
        · first | (refine Or.inr ⟨by rfl, ?_⟩; with_reducible rfl) | (refine Or.inl ⟨by rfl, fun W hS => detR_value (w' := W) ?_ (Below.refl _ _)⟩; have hH := hS; obtain ⟨x0, x1, _⟩ := hH.1; go_simp; first | done | with_reducible rfl) | fail
        simp only [Act.put, List.setIfInBounds_toArray, List.set_cons_zero, List.set_cons_succ]
        refine takeW (i := 6) (v := ?_) (Stable.held _ _) rfl (by kernel_rfl) (by kernel_rfl) (by kernel_rfl) (fun _ _ _ h => h) ?_ ?_
        rotate_left
        · first | (refine Or.inr ⟨by rfl, ?_⟩; with_reducible rfl) | (refine Or.inl ⟨by rfl, fun W hS => detR_value (w' := W) ?_ (Below.refl _ _)⟩; have hH := hS; obtain ⟨x0, x1, _⟩ := hH.1; go_simp; first | done | with_reducible rfl) | fail
        simp only [Act.put, List.setIfInBounds_toArray, List.set_cons_zero, List.set_cons_succ]
        refine takeW (i := 7) (v := ?_) (Stable.held _ _) rfl (by kernel_rfl) (by kernel_rfl) (by kernel_rfl) (fun _ _ _ h => h) ?_ ?_
        rotate_left
        · first | (refine Or.inl ⟨by rfl, fun W hS => detR_value (w' := W) ?_ (Below.refl _ _)⟩; have hH := hS; obtain ⟨x0, x1, _⟩ := hH.1; go_simp; first | done | with_reducible rfl) | fail
        simp only [Act.put, List.setIfInBounds_toArray, List.set_cons_zero, List.set_cons_succ]
        refine takeW (i := 8) (v := ?_) (Stable.held _ _) rfl (by kernel_rfl) (by kernel_rfl) (by kernel_rfl) (fun _ _ _ h => h) ?_ ?_
        rotate_left
        · first | (refine Or.inl ⟨by rfl, fun W hS => detR_value (w' := W) ?_ (Below.refl _ _)⟩; have hH := hS; obtain ⟨x0, x1, _⟩ := hH.1; go_simp; first | done | with_reducible rfl) | fail
        simp only [Act.put, List.setIfInBounds_toArray, List.set_cons_zero, List.set_cons_succ]
        refine takeW (i := 9) (v := ?_) (Stable.held _ _) rfl (by kernel_rfl) (by kernel_rfl) (by kernel_rfl) (fun _ _ _ h => h) ?_ ?_
        rotate_left
        · first | (refine Or.inr ⟨by rfl, ?_⟩; with_reducible rfl) | (refine Or.inl ⟨by rfl, fun W hS => detR_value (w' := W) ?_ (Below.refl _ _)⟩; have hH := hS; obtain ⟨x0, x1, _⟩ := hH.1; go_simp; first | done | with_reducible rfl) | fail
        simp only [Act.put, List.setIfInBounds_toArray, List.set_cons_zero, List.set_cons_succ]
        refine takeW (i := 10) (v := ?_) (Stable.held _ _) rfl (by kernel_rfl) (by kernel_rfl) (by kernel_rfl) (fun _ _ _ h => h) ?_ ?_
        rotate_left
        · first | (refine Or.inr ⟨by rfl, ?_⟩; with_reducible rfl) | (refine Or.inl ⟨by rfl, fun W hS => ?_⟩; have hH := hS; refine detR_call (w' := W) (f := ?_) (args := ?_) ?_ ?_; rotate_left 2; (go_simp; (refine ⟨?_, ?_⟩ <;> with_reducible rfl)); (first | (with_reducible refine (HD.out _).mono ?_) | fail); (first | (rintro e wn ⟨rfl, hb⟩; refine ⟨?_, hb⟩; with_reducible rfl) | (rintro e wn ⟨rfl, rfl⟩; refine ⟨?_, Below.refl _ _⟩; with_reducible rfl) | fail)) | fail
        simp only [Act.put, List.setIfInBounds_toArray, List.set_cons_zero, List.set_cons_succ]
        refine takeW (i := 13) (v := ?_) (Stable.held _ _) rfl (by kernel_rfl) (by kernel_rfl) (by kernel_rfl) (fun _ _ _ h => h) ?_ ?_
        rotate_left
        · first | (refine Or.inr ⟨by rfl, ?_⟩; with_reducible rfl) | (refine Or.inl ⟨by rfl, fun W hS => detR_value (w' := W) ?_ (Below.refl _ _)⟩; have hH := hS; obtain ⟨x0, x1, _⟩ := hH.1; go_simp; first | done | with_reducible rfl) | fail
        simp only [Act.put, List.setIfInBounds_toArray, List.set_cons_zero, List.set_cons_succ]
        refine takeW (i := 14) (v := ?_) (Stable.held _ _) rfl (by kernel_rfl) (by kernel_rfl) (by kernel_rfl) (fun _ _ _ h => h) ?_ ?_
        rotate_left
        · first | (refine Or.inr ⟨by rfl, ?_⟩; with_reducible rfl) | (refine Or.inl ⟨by rfl, fun W hS => detR_value (w' := W) ?_ (Below.refl _ _)⟩; have hH := hS; obtain ⟨x0, x1, _⟩ := hH.1; go_simp; first | done | with_reducible rfl) | fail
        simp only [Act.put, List.setIfInBounds_toArray, List.set_cons_zero, List.set_cons_succ]
        refine takeW (i := 15) (v := ?_) (Stable.held _ _) rfl (by kernel_rfl) (by kernel_rfl) (by kernel_rfl) (fun _ _ _ h => h) ?_ ?_
        rotate_left
        · first | (refine Or.inr ⟨by rfl, ?_⟩; with_reducible rfl) | (refine Or.inl ⟨by rfl, fun W hS => detR_value (w' := W) ?_ (Below.refl _ _)⟩; have hH := hS; obtain ⟨x0, x1, _⟩ := hH.1; go_simp; first | done | with_reducible rfl) | fail
        simp only [Act.put, List.setIfInBounds_toArray, List.set_cons_zero, List.set_cons_succ]
        refine freeX (i := 11) (fun v W => Ints W w.heap.size v ps) (Stable.held _ _) (fun v => stable_ints w.heap.size v ps) rfl (by kernel_rfl) (by rfl) (fun W hS => ?_) (fun v hex => ?_)
        · have hH := hS; obtain ⟨x0, x1, _⟩ := hH.1; refine freeR_call (w' := W) (f := ?_) (args := ?_) ?_ ?_; rotate_left 2; (go_simp; (refine ⟨?_, ?_⟩ <;> with_reducible rfl)); exact HP.out W hH.below
        obtain ⟨WX, hex⟩ := hex
        obtain ⟨a11, c11, rfl, -, -⟩ := hex.form
        try clear hex
        try clear WX
        simp only [Act.put, List.setIfInBounds_toArray, List.set_cons_zero, List.set_cons_succ]
        refine takeW (i := 12) (v := ?_) (Stable.and (Stable.held _ _) (stable_ints w.heap.size (.slice a11 ps.length c11) ps)) rfl (by kernel_rfl) (by kernel_rfl) (by kernel_rfl) (fun _ _ _ h => h) ?_ ?_
        rotate_left
        · first | (refine Or.inr ⟨by rfl, ?_⟩; with_reducible rfl) | (refine Or.inl ⟨by rfl, fun W hS => detR_value (w' := W) ?_ (Below.refl _ _)⟩; obtain ⟨hH, r11⟩ := hS; obtain ⟨x0, x1, _⟩ := hH.1; go_simp; first | done | with_reducible rfl) | fail
        simp only [Act.put, List.setIfInBounds_toArray, List.set_cons_zero, List.set_cons_succ]
        refine takeW (i := 16) (v := ?_) (Stable.and (Stable.held _ _) (stable_ints w.heap.size (.slice a11 ps.length c11) ps)) rfl (by kernel_rfl) (by kernel_rfl) (by kernel_rfl) (fun _ _ _ h => h) ?_ ?_
        rotate_left
        · first | (refine Or.inr ⟨by rfl, ?_⟩; with_reducible rfl) | (refine Or.inl ⟨by rfl, fun W hS => detR_value (w' := W) ?_ (Below.refl _ _)⟩; obtain ⟨hH, r11⟩ := hS; obtain ⟨x0, x1, _⟩ := hH.1; go_simp; first | done | with_reducible rfl) | fail
        simp only [Act.put, List.setIfInBounds_toArray, List.set_cons_zero, List.set_cons_succ]
        refine takeW (i := 17) (v := ?_) (Stable.and (Stable.held _ _) (stable_ints w.heap.size (.slice a11 ps.length c11) ps)) rfl (by kernel_rfl) (by kernel_rfl) (by kernel_rfl) (fun _ _ _ h => h) ?_ ?_
        rotate_left
        · first | (refine Or.inl ⟨by rfl, fun W hS => detR_value (w' := W) ?_ (Below.refl _ _)⟩; obtain ⟨hH, r11⟩ := hS; obtain ⟨x0, x1, _⟩ := hH.1; go_simp; first | done | with_reducible rfl) | fail
        simp only [Act.put, List.setIfInBounds_toArray, List.set_cons_zero, List.set_cons_succ]
        refine takeW (i := 18) (v := ?_) (Stable.and (Stable.held _ _) (stable_ints w.heap.size (.slice a11 ps.length c11) ps)) rfl (by kernel_rfl) (by kernel_rfl) (by kernel_rfl) (fun _ _ _ h => h) ?_ ?_
        rotate_left
        · first | (refine Or.inl ⟨by rfl, fun W hS => detR_value (w' := W) ?_ (Below.refl _ _)⟩; obtain ⟨hH, r11⟩ := hS; obtain ⟨x0, x1, _⟩ := hH.1; go_simp; first | done | with_reducible rfl) | fail
        simp only [Act.put, List.setIfInBounds_toArray, List.set_cons_zero, List.set_cons_succ]
        refine doneW (by kernel_rfl) fun wH1 HG => ?_
        obtain ⟨hH, r11⟩ := HG
        have H1 := Lib.hid hH; clear hH
        have MH1_o11 := Lib.hid r11; clear r11
        try clear x0 x1
        go_wp2_with fail
        go_ret
        exact ⟨ret_bool (by rw [HR.out]), H1.out.below⟩
    · have HR := Lib.hid (show wholeB ns ls = false from by unfold wholeB; rw [decide_eq_false hl0]; simp)
      rw [hw] at HW
      clear hw
      have g0 : (ls.length : Int) ≤ 0 := by omega
      generalize wholeB ns ls = r at *
      go_enter Tryz.func83, Tryz.ntmps83
      go_wp2_with fail
      refine regionD (S := fun W => Held _ W [(w.heap.size, 0, .slice A ns.length c), (w.heap.size, 1, .slice A2 ls.length c2)]) (by kernel_rfl) H0.out.drew ?_
      iterate 19 (refine takeT (v := ?_) rfl (by kernel_rfl) (by kernel_rfl) (by kernel_rfl) ?_ ?_; rotate_left; (first | (refine Or.inr ⟨by rfl, ?_⟩; with_reducible rfl) | (refine Or.inl ⟨by rfl, fun W hS => detRes_value (w' := W) ?_ hS⟩; obtain ⟨x0, x1, _⟩ := hS.1; go_simp; first | done | with_reducible rfl) | (refine Or.inl ⟨by rfl, fun W hS => ?_⟩; refine detRes_call (w' := W) (f := ?_) (args := ?_) ?_ ?_; rotate_left 2; (go_simp; (refine ⟨?_, ?_⟩ <;> with_reducible rfl)); (first | (with_reducible refine (HW.out _ (HN.out.step hS.below) (HL.out.step hS.below)).mono ?_) | fail); (first | (rintro e wn ⟨rfl, hb⟩; refine ⟨?_, hS.step hb⟩; with_reducible rfl) | (rintro e wn ⟨rfl, rfl⟩; refine ⟨?_, hS⟩; with_reducible rfl) | fail)) | fail); (simp only [Act.put, List.setIfInBounds_toArray, List.set_cons_zero, List.set_cons_succ]))
      refine doneD (by kernel_rfl) fun wH1 HS => ?_
      have H1 := Lib.hid HS; clear HS
      try clear x0 x1
      obtain ⟨x0, x1, _⟩ := H1.out.1
      go_wp2_with fail
      go_ret
      exact ⟨ret_bool (by rw [HR.out]), H1.out.below⟩
  · have HR := Lib.hid (show wholeB ns ls = false from by unfold wholeB; rw [show winB ns ls = false by simpa using hw]; rfl)
    rw [show winB ns ls = false by simpa using hw] at HW
    clear hw
    generalize wholeB ns ls = r at *
    go_enter Tryz.func83, Tryz.ntmps83
    go_wp2_with fail
    refine regionD (S := fun W => Held _ W [(w.heap.size, 0, .slice A ns.length c), (w.heap.size, 1, .slice A2 ls.length c2)]) (by kernel_rfl) H0.out.drew ?_
    iterate 19 (refine takeT (v := ?_) rfl (by kernel_rfl) (by kernel_rfl) (by kernel_rfl) ?_ ?_; rotate_left; (first | (refine Or.inr ⟨by rfl, ?_⟩; with_reducible rfl) | (refine Or.inl ⟨by rfl, fun W hS => detRes_value (w' := W) ?_ hS⟩; obtain ⟨x0, x1, _⟩ := hS.1; go_simp; first | done | with_reducible rfl) | (refine Or.inl ⟨by rfl, fun W hS => ?_⟩; refine detRes_call (w' := W) (f := ?_) (args := ?_) ?_ ?_; rotate_left 2; (go_simp; (refine ⟨?_, ?_⟩ <;> with_reducible rfl)); (first | (with_reducible refine (HW.out _ (HN.out.step hS.below) (HL.out.step hS.below)).mono ?_) | fail); (first | (rintro e wn ⟨rfl, hb⟩; refine ⟨?_, hS.step hb⟩; with_reducible rfl) | (rintro e wn ⟨rfl, rfl⟩; refine ⟨?_, hS⟩; with_reducible rfl) | fail)) | fail); (simp only [Act.put, List.setIfInBounds_toArray, List.set_cons_zero, List.set_cons_succ]))
    refine doneD (by kernel_rfl) fun wH1 HS => ?_
    have H1 := Lib.hid HS; clear HS
    try clear x0 x1
    obtain ⟨x0, x1, _⟩ := H1.out.1
    go_wp2_with fail
    go_ret
    exact ⟨ret_bool (by rw [HR.out]), H1.out.below⟩

set_option maxRecDepth 100000 in
set_option maxHeartbeats 2000000 in
theorem specWhole (ns ls : List Nd) (vn vl : Value) (w : World) (hn : Prs w vn ns) (hl : Prs w vl ls) :
    Calls Tryz.prog 51 #[.agg #[vn, vl]] w (BoolIs (wholeB ns ls) w) := by
  have HN := Lib.hid hn
  have HL := Lib.hid hl
  have hlen := hn.len
  obtain ⟨A, c, rfl⟩ := prs_form2 hn
  obtain ⟨A2, c2, rfl⟩ := prs_form2 hl
  clear hn hl
  have H0 := Lib.hid (held_pair w (.slice A ns.length c) (.slice A2 ls.length c2) 32)
  have HW := Lib.hid (fun w h1 h2 => specWin ns ls (.slice A ns.length c) (.slice A2 ls.length c2) w h1 h2)
  by_cases hw : winB ns ls = true
  · have h20 := ((winB_iff ns ls).1 hw).1.2
    have h12 := ((winB_iff ns ls).1 hw).1.1.2
    have h1 := ((winB_iff ns ls).1 hw).1.1.1
    by_cases hl0 : 0 < ls.length
    · have hr : wholeB ns ls = decide ((partL ns ls 0).length = ns.length) := by
        unfold wholeB; rw [hw, decide_eq_true hl0]; rfl
      have HT := Lib.hid (show (∀ i, i < ns.length → lab ls ls.length i = 0) → wholeB ns ls = true from fun h => by rw [hr]; exact decide_eq_true ((whole_iff ns ls).2 h))
      have HF := Lib.hid (show ∀ i, i < ns.length → lab ls ls.length i ≠ 0 → wholeB ns ls = false from fun i hi h => by rw [hr]; exact decide_eq_false fun e => h ((whole_iff ns ls).1 e i hi))
      have HP := Lib.hid (fun w h1 h2 => specParts ns ls (.slice A ns.length c) (.slice A2 ls.length c2) w h1 h2 hw)
      unfold IntsNew at HP
      have HLA := Lib.hid (fun i (hi : i < ns.length) => (show atZ (labsL ns ls) i = (lab ls ls.length i : Nat) from genL_at _ hi))
      have HLL := Lib.hid (show (labsL ns ls).length = ns.length from genL_len _ _)
      rw [hw] at HW
      clear hw hr
      have g0 : ((ls.length : Int) == 0) = false := by rw [beq_eq_false_iff_ne]; omega
      generalize wholeB ns ls = r at *
      generalize labsL ns ls = lb at *
      generalize lab ls ls.length = LB at *
      go_enter Tryz.func51, Tryz.ntmps51
      go_wp2_with fail
      refine (HW.out _ (HN.out.step H0.out.below) (HL.out.step H0.out.below)).mono ?_
      rintro e wH1 ⟨rfl, hb⟩
      have H1 := Lib.hid ((H0.out).step hb); clear hb
      try clear x0 x1
      obtain ⟨x0, x1, _⟩ := H1.out.1
      go_wp2_with fail
      refine (HP.out _ (HN.out.step H1.out.below) (HL.out.step H1.out.below)).mono ?_
      rintro e w2 ⟨vl', rfl, hi, hb⟩
      have H2 := Lib.hid (H1.out.step hb)
      obtain ⟨gl, cl, rfl⟩ := hi.some_ (by rw [HLL.out]; omega)
      have HS2 := Lib.hid hi
      rw [HLL.out] at HS2 ⊢
      clear hi hb x0 x1 H1
      go_wp2_with fail
      go_loopw [4] (fun i wr => ∃ m : Nat, m ≤ ns.length ∧ i = .int .i64 m ∧ (∀ j, j < m → LB j = 0) ∧ wr = w2) (fun i _ => ns.length - (intOf i).toNat)
      case atStart => exact ⟨0, Nat.zero_le _, rfl, fun j hj => by omega, rfl⟩
      case round =>
        obtain ⟨m, hm, rfl, hz, rfl⟩ := hrel
        have HZ := Lib.hid hz; clear hz
        by_cases hlt : m < ns.length
        · have hlg := HLL.out
          obtain ⟨c0, -, -, -, -⟩ := HS2.out.at_ (j := m) (by omega)
          rw [HLA.out m hlt] at c0
          have HFM := Lib.hid (HF.out m hlt)
          have HZN := Lib.hid (show LB m = 0 → ∀ j, j < m + 1 → LB j = 0 from fun h j hj => by
            by_cases e : j = m
            · subst e; exact h
            · exact HZ.out j (by omega))
          have hz1 : (m : Int) < (ns.length : Int) := by omega
          have hz2 : (0 : Int) ≤ m := by omega
          generalize hlm : LB m = lm at *
          clear hlg hlm
          by_cases hq : lm = 0
          · have gq : ((lm : Int) != 0) = false := by simp [hq]
            have HQ := Lib.hid hq; clear hq
            go_wp2_with fail
            exact ⟨⟨m + 1, by omega, by go_num, HZN.out HQ.out, trivial⟩, by simp [intOf]; omega⟩
          · have gq : ((lm : Int) != 0) = true := by rw [bne_iff_ne]; omega
            have HQ := Lib.hid hq; clear hq
            go_wp2_with fail
            go_ret
            exact ⟨ret_bool (by rw [HFM.out HQ.out]), H2.out.below⟩
        · obtain rfl : m = ns.length := by omega
          go_wp2_with fail
          go_ret
          exact ⟨ret_bool (by rw [HT.out HZ.out]), H2.out.below⟩
    · have HR := Lib.hid (show wholeB ns ls = false from by unfold wholeB; rw [decide_eq_false hl0]; simp)
      rw [hw] at HW
      clear hw
      have g0 : ((ls.length : Int) == 0) = true := by rw [beq_iff_eq]; omega
      generalize wholeB ns ls = r at *
      go_enter Tryz.func51, Tryz.ntmps51
      go_wp2_with fail
      refine (HW.out _ (HN.out.step H0.out.below) (HL.out.step H0.out.below)).mono ?_
      rintro e wH1 ⟨rfl, hb⟩
      have H1 := Lib.hid ((H0.out).step hb); clear hb
      try clear x0 x1
      obtain ⟨x0, x1, _⟩ := H1.out.1
      go_wp2_with fail
      go_ret
      exact ⟨ret_bool (by rw [HR.out]), H1.out.below⟩
  · have HR := Lib.hid (show wholeB ns ls = false from by unfold wholeB; rw [show winB ns ls = false by simpa using hw]; rfl)
    rw [show winB ns ls = false by simpa using hw] at HW
    clear hw
    generalize wholeB ns ls = r at *
    go_enter Tryz.func51, Tryz.ntmps51
    go_wp2_with fail
    refine (HW.out _ (HN.out.step H0.out.below) (HL.out.step H0.out.below)).mono ?_
    rintro e wH1 ⟨rfl, hb⟩
    have H1 := Lib.hid ((H0.out).step hb); clear hb
    try clear x0 x1
    obtain ⟨x0, x1, _⟩ := H1.out.1
    go_wp2_with fail
    go_ret
    exact ⟨ret_bool (by rw [HR.out]), H1.out.below⟩
end Go.Proofs.YtnonebfdognlmaaGreat

namespace Go.Proofs.YtnonebfdognlmaaGreat
open Go.RowKit
set_option linter.unusedVariables false
set_option linter.unusedSimpArgs false

/-- The first place before n at which p holds, or -1. -/
def firstI (p : Nat → Bool) : Nat → Int
  | 0 => -1
  | n + 1 => if 0 ≤ firstI p n then firstI p n else if p n = true then (n : Int) else -1
theorem firstI_none {p : Nat → Bool} : ∀ n, (∀ j, j < n → p j = false) → firstI p n = -1
  | 0, _ => rfl
  | n + 1, h => by
    have ih := firstI_none n fun j hj => h j (by omega)
    unfold firstI
    rw [ih, if_neg (by omega), if_neg (by rw [h n (by omega)]; simp)]
theorem firstI_at {p : Nat → Bool} {m : Nat} (hb : ∀ j, j < m → p j = false) (hp : p m = true) : ∀ n, m < n → firstI p n = (m : Int)
  | 0, h => by omega
  | n + 1, h => by
    unfold firstI
    by_cases e : m = n
    · subst e
      rw [firstI_none m hb, if_neg (by omega), if_pos hp]
    · rw [firstI_at hb hp n (by omega), if_pos (by omega)]
theorem firstI_cases (p : Nat → Bool) : ∀ n, (firstI p n = -1 ∧ ∀ j, j < n → p j = false) ∨ ∃ m : Nat, firstI p n = (m : Int) ∧ m < n ∧ p m = true ∧ ∀ j, j < m → p j = false
  | 0 => .inl ⟨rfl, fun j h => by omega⟩
  | n + 1 => by
    rcases firstI_cases p n with ⟨h1, h2⟩ | ⟨m, h1, h2, h3, h4⟩
    · by_cases hp : p n = true
      · exact .inr ⟨n, firstI_at h2 hp (n + 1) (by omega), by omega, hp, h2⟩
      · refine .inl ⟨firstI_none _ fun j hj => ?_, fun j hj => ?_⟩
        all_goals
          by_cases e : j = n
          · subst e; simpa using hp
          · exact h2 j (by omega)
    · exact .inr ⟨m, firstI_at h4 h3 (n + 1) (by omega), by omega, h3, h4⟩
theorem firstI_congr {p q : Nat → Bool} : ∀ n, (∀ j, j < n → p j = q j) → firstI p n = firstI q n
  | 0, _ => rfl
  | n + 1, h => by
    unfold firstI
    rw [firstI_congr n fun j hj => h j (by omega), h n (by omega)]

/-- The face that holds a dart. -/
def faceI (rs : List (List Int)) (x : Int) : Int := firstI (fun k => (atR rs k).contains x) rs.length
theorem fIx_at {rs : List (List Int)} {x : Int} (h : seenB rs x = true) : (atR rs (fIx rs x)).contains x = true ∧ ∀ j, j < fIx rs x → (atR rs j).contains x = false := by
  induction rs with
  | nil => simp [seenB] at h
  | cons a t ih =>
    simp only [fIx]
    by_cases e : a.contains x = true
    · rw [if_pos e]
      exact ⟨e, fun j hj => by omega⟩
    · rw [if_neg e]
      have e' : a.contains x = false := by simpa using e
      have h' : seenB t x = true := by
        unfold seenB at h ⊢
        rw [List.any_cons, e', Bool.false_or] at h
        exact h
      obtain ⟨h1, h2⟩ := ih h'
      refine ⟨by simpa [atR] using h1, fun j hj => ?_⟩
      match j with
      | 0 => simpa [atR] using e'
      | j + 1 => simpa [atR] using h2 j (by omega)
theorem faceI_seen {rs : List (List Int)} {x : Int} (h : seenB rs x = true) : faceI rs x = (fIx rs x : Nat) := by
  obtain ⟨h1, h2⟩ := fIx_at h
  exact firstI_at h2 h1 _ (fIx_lt h)
theorem faceI_unseen {rs : List (List Int)} {x : Int} (h : seenB rs x = false) : faceI rs x = -1 := by
  refine firstI_none _ fun j hj => ?_
  rw [Bool.eq_false_iff]
  intro hc
  have : seenB rs x = true := (seenB_iff rs x).2 ⟨atR rs j, by rw [← atR_get hj]; exact List.getElem_mem hj, by simpa using hc⟩
  rw [h] at this
  cases this

noncomputable def wF (ns ls : List Nd) : List (List Int) := if wholeB ns ls = true then facesL ns ls else []
noncomputable def atW (ns ls : List Nd) : List Int := (List.range (2 * ls.length)).map fun d : Nat => ((fIx (facesL ns ls) (d : Int) : Nat) : Int)
theorem atW_len (ns ls : List Nd) : (atW ns ls).length = 2 * ls.length := by simp [atW]
theorem atW_at {ns ls : List Nd} {d : Nat} (h : d < 2 * ls.length) : atZ (atW ns ls) d = ((fIx (facesL ns ls) (d : Int) : Nat) : Int) := by simp [atZ, atW, List.getD, h]
theorem whole_win {ns ls : List Nd} (h : wholeB ns ls = true) : winB ns ls = true ∧ 0 < ls.length ∧ ls.length ≤ 20 ∧ ns.length ≤ 12 := by
  unfold wholeB at h
  simp only [Bool.and_eq_true, decide_eq_true_eq] at h
  have hw := ((winB_iff ns ls).1 h.1.1).1
  exact ⟨h.1.1, h.1.2, hw.2, hw.1.2⟩
theorem atW_face {ns ls : List Nd} (hw : winB ns ls = true) {d : Nat} (h : d < 2 * ls.length) : atZ (atW ns ls) d = faceI (facesL ns ls) d ∧ fIx (facesL ns ls) (d : Int) < (facesL ns ls).length := by
  have hs := faces_all hw (2 * ls.length) d (Nat.le_refl _) h
  exact ⟨by rw [atW_at h]; exact (faceI_seen hs).symm, fIx_lt hs⟩
theorem faces_len (ns ls : List Nd) : (facesL ns ls).length ≤ 2 * ls.length := by
  unfold facesL
  rw [facesN_len]
  exact startsL_len ns ls _
theorem wF_len {ns ls : List Nd} : (wF ns ls).length ≤ 40 := by
  unfold wF
  split
  · rename_i h
    have := faces_len ns ls
    have := (whole_win h).2.2.1
    omega
  · simp
theorem wF_row {ns ls : List Nd} {k : Nat} (h : k < (wF ns ls).length) : wholeB ns ls = true ∧ ∃ d : Nat, d < 2 * ls.length ∧ atR (wF ns ls) k = walkN ns ls d ∧ d = (startsL ns ls (2 * ls.length)).getD k 0 := by
  unfold wF at h ⊢
  by_cases hw : wholeB ns ls = true
  · rw [if_pos hw] at h ⊢
    refine ⟨hw, _, ?_, facesN_atR h, rfl⟩
    have h2 : k < (startsL ns ls (2 * ls.length)).length := by unfold facesL at h; rwa [facesN_len] at h
    have : (startsL ns ls (2 * ls.length)).getD k 0 ∈ startsL ns ls (2 * ls.length) := by simp [List.getD, h2]
    exact startsL_lt ns ls _ _ this
  · rw [if_neg hw] at h; simp at h
/-- A dart that a face holds is a dart of the window. -/
theorem wF_dart {ns ls : List Nd} {x : Int} (h : seenB (wF ns ls) x = true) : wholeB ns ls = true ∧ ∃ q : Nat, x = q ∧ q < 2 * ls.length := by
  unfold wF at h
  by_cases hw : wholeB ns ls = true
  · rw [if_pos hw] at h
    obtain ⟨r, hr, hx⟩ := (seenB_iff _ _).1 h
    exact ⟨hw, facesN_darts (whole_win hw).1 _ (Nat.le_refl _) r hr x hx⟩
  · rw [if_neg hw] at h; simp [seenB] at h

/-- What is stored after the first k faces, and i darts of the next one. -/
def fillF (rs : List (List Int)) (k i : Nat) (d : Nat) : Int := if seenB (rs.take k) (d : Int) = true ∨ ((atR rs k).take i).contains (d : Int) = true then ((fIx rs (d : Int) : Nat) : Int) else 0
theorem take_seen {rs : List (List Int)} {k : Nat} (h : k < rs.length) (x : Int) : seenB (rs.take (k + 1)) x = (seenB (rs.take k) x || (atR rs k).contains x) := by
  rw [List.take_succ_eq_append_getElem h, seenB_app, atR_get h]
theorem fillF_next {rs : List (List Int)} {k : Nat} (h : k < rs.length) (d : Nat) : fillF rs k (atR rs k).length d = fillF rs (k + 1) 0 d := by
  unfold fillF
  rw [take_seen h, List.take_length]
  simp
theorem take_has {l : List Int} {i : Nat} (h : i < l.length) (x : Int) : (l.take (i + 1)).contains x = ((l.take i).contains x || (x == atZ l i)) := by
  rw [List.take_succ_eq_append_getElem h, atZ_get h]
  rw [Bool.eq_iff_iff]
  simp
theorem fillF_store {rs : List (List Int)} {k i q : Nat} (hi : i < (atR rs k).length) (hq : atZ (atR rs k) i = (q : Int)) (hf : fIx rs (q : Int) = k) (d : Nat) : (if d = q then (k : Int) else fillF rs k i d) = fillF rs k (i + 1) d := by
  unfold fillF
  rw [take_has hi, hq]
  by_cases e : d = q
  · subst e
    rw [if_pos rfl, if_pos (by simp), hf]
  · rw [if_neg e]
    have : ((d : Int) == (q : Int)) = false := by rw [beq_eq_false_iff_ne]; omega
    rw [this, Bool.or_false]
theorem fillF_zero (rs : List (List Int)) (d : Nat) : fillF rs 0 0 d = 0 := by
  unfold fillF
  simp [seenB]
theorem fillF_end {ns ls : List Nd} (hw : winB ns ls = true) {d : Nat} (h : d < 2 * ls.length) : fillF (facesL ns ls) (facesL ns ls).length 0 d = atZ (atW ns ls) d := by
  unfold fillF
  rw [List.take_length, if_pos (.inl (faces_all hw _ d (Nat.le_refl _) h)), atW_at h]
theorem fix_walk {ns ls : List Nd} (hw : winB ns ls = true) {k i : Nat} (hk : k < (facesL ns ls).length) (hi : i < (atR (facesL ns ls) k).length) : ∃ q : Nat, atZ (atR (facesL ns ls) k) i = q ∧ q < 2 * ls.length ∧ fIx (facesL ns ls) (q : Int) = k := by
  have hk2 : k < (startsL ns ls (2 * ls.length)).length := by unfold facesL at hk; rwa [facesN_len] at hk
  have hm : atZ (atR (facesL ns ls) k) i ∈ atR (facesL ns ls) k := by rw [← atZ_get hi]; exact List.getElem_mem hi
  have hr : atR (facesL ns ls) k ∈ facesN ns ls (2 * ls.length) := by
    have := List.getElem_mem hk
    rw [atR_get hk] at this
    exact this
  obtain ⟨q, h1, h2⟩ := facesN_darts hw _ (Nat.le_refl _) _ hr _ hm
  refine ⟨q, h1, h2, ?_⟩
  rw [h1] at hm
  exact fIx_row hw _ (Nat.le_refl _) k hk2 _ (by rw [← facesN_atR hk]; exact hm)
theorem row_len {ns ls : List Nd} {k : Nat} (h : k < (wF ns ls).length) : (atR (wF ns ls) k).length ≤ 40 ∧ 0 < (atR (wF ns ls) k).length := by
  obtain ⟨hw, d, hd, e, _⟩ := wF_row h
  obtain ⟨h1, _, h20, _⟩ := whole_win hw
  obtain ⟨p0, p1, _, _⟩ := perN_spec h1 hd
  rw [e]
  unfold walkN
  rw [wkL_len]
  omega
end Go.Proofs.YtnonebfdognlmaaGreat

namespace Go.Proofs.YtnonebfdognlmaaGreat
open Go.RowKit
set_option linter.unusedVariables false
set_option linter.unusedSimpArgs false

def twinI (d : Int) : Int := if inB d 0 39 = true then bits .xor .i64 d 1 else -1
theorem implTwin (d : Int) (w : World) : Calls Tryz.prog 102 #[.int .i64 d] w (IntIs (twinI d) w) := by
  have hr : twinI d = if 0 ≤ d ∧ d ≤ 39 then bits .xor .i64 d 1 else -1 := by
    unfold twinI
    by_cases h : 0 ≤ d ∧ d ≤ 39
    · rw [if_pos h, if_pos (by simp [inB]; exact h)]
    · rw [if_neg h, if_neg (by simp [inB]; omega)]
  generalize twinI d = r at *
  have HR := Lib.hid hr; clear hr
  go_enter Tryz.func102, Tryz.ntmps102
  by_cases h0 : d < 0
  · go_wp2
    go_ret
    exact ⟨ret_int (by rw [HR.out, if_neg (by omega)]), Below.refl _ _⟩
  · by_cases h1 : 39 < d
    · go_wp2
      go_ret
      exact ⟨ret_int (by rw [HR.out, if_neg (by omega)]), Below.refl _ _⟩
    · go_wp2
      go_ret
      exact ⟨ret_int (by rw [HR.out, if_pos (by omega)]), Below.refl _ _⟩

/-- How many of the first n are not -1. -/
def cntW (xs : List Int) : Nat → Nat
  | 0 => 0
  | n + 1 => if atZ xs n = -1 then cntW xs n else cntW xs n + 1
theorem cntW_le (xs : List Int) : ∀ n, cntW xs n ≤ n
  | 0 => Nat.le_refl _
  | n + 1 => by
    have := cntW_le xs n
    unfold cntW
    split <;> omega

end Go.Proofs.YtnonebfdognlmaaGreat

namespace Go.Proofs.YtnonebfdognlmaaGreat
open Go.RowKit
set_option linter.unusedVariables false
set_option linter.unusedSimpArgs false

def degI (ns ls : List Nd) (k : Int) : Int := if hasB ns ls k = true then ((atsI ns ls k).length : Int) else -1

end Go.Proofs.YtnonebfdognlmaaGreat

namespace Go.Proofs.YtnonebfdognlmaaGreat
open Go.RowKit
set_option linter.unusedVariables false
set_option linter.unusedSimpArgs false

def strB (ns ls : List Nd) (k : Int) : Bool :=
  decide ((atsI ns ls k).length = 2) && betweenB (atI ns (otherI (atI ls ((atsI ns ls k).getD 0 0)) k)) (atI ns (otherI (atI ls ((atsI ns ls k).getD 1 0)) k)) (atI ns k)
theorem atL_mem (ls : List Nd) (k : Int) : ∀ n x, x ∈ atL ls k n → ∃ i : Nat, x = i ∧ i < n ∧ ((atN ls i).x = k ∨ (atN ls i).y = k)
  | 0, x, h => by simp [atL] at h
  | n + 1, x, h => by
    unfold atL at h
    split at h
    · rename_i hk
      rcases List.mem_append.1 h with h | h
      · obtain ⟨i, e, hi, hh⟩ := atL_mem ls k n x h
        exact ⟨i, e, by omega, hh⟩
      · simp at h
        exact ⟨n, h, by omega, hk⟩
    · obtain ⟨i, e, hi, hh⟩ := atL_mem ls k n x h
      exact ⟨i, e, by omega, hh⟩
theorem atsI_mem {ns ls : List Nd} {k : Int} {x : Int} (h : x ∈ atsI ns ls k) : hasB ns ls k = true ∧ ∃ i : Nat, x = i ∧ i < ls.length ∧ ((atN ls i).x = k ∨ (atN ls i).y = k) := by
  unfold atsI at h
  split at h
  · rename_i hh
    exact ⟨hh, atL_mem _ _ _ _ h⟩
  · simp at h
theorem hasB_nat {ns ls : List Nd} {k : Int} (h : hasB ns ls k = true) : ∃ q : Nat, k = q ∧ q < ns.length ∧ winB ns ls = true ∧ ns.length ≤ 12 ∧ ls.length ≤ 20 := by
  unfold hasB at h
  simp only [Bool.and_eq_true] at h
  have h2 := (idxB_iff _ _).1 h.2
  have h3 := ((winB_iff ns ls).1 h.1).1
  exact ⟨k.toNat, by omega, by omega, h.1, h3.1.2, h3.2⟩
theorem other_nat {ns ls : List Nd} {i k : Nat} (hw : winB ns ls = true) (hi : i < ls.length) (h : (atN ls i).x = k ∨ (atN ls i).y = k) : ∃ a : Nat, otherI (atN ls i) k = a ∧ a < ns.length := by
  obtain ⟨p, q, e, hpq, hp, hq, _⟩ := leadOkB_spec (((winB_iff ns ls).1 hw).2.2 i hi).1
  rw [e] at h ⊢
  simp only at h
  unfold otherI
  simp only
  by_cases h1 : (k : Int) = (p : Int)
  · rw [if_pos h1]; exact ⟨q, rfl, hq⟩
  · rw [if_neg h1, if_pos (by omega)]; exact ⟨p, rfl, hp⟩
theorem str_two {ns ls : List Nd} {k : Int} (h : (atsI ns ls k).length = 2) : ∃ i j q a b : Nat, atsI ns ls k = [(i : Int), (j : Int)] ∧ k = q ∧ hasB ns ls k = true ∧ i < ls.length ∧ j < ls.length ∧ q < ns.length ∧
    otherI (atN ls i) q = a ∧ a < ns.length ∧ otherI (atN ls j) q = b ∧ b < ns.length ∧ strB ns ls k = betweenB (atN ns a) (atN ns b) (atN ns q) ∧ ns.length ≤ 12 ∧ ls.length ≤ 20 := by
  obtain ⟨x, y, e⟩ : ∃ x y, atsI ns ls k = [x, y] := by
    match hm : atsI ns ls k, h with
    | [x, y], _ => exact ⟨x, y, rfl⟩
  obtain ⟨hh, i, rfl, hi, hx⟩ := atsI_mem (ns := ns) (ls := ls) (k := k) (x := x) (by rw [e]; simp)
  obtain ⟨_, j, rfl, hj, hy⟩ := atsI_mem (ns := ns) (ls := ls) (k := k) (x := y) (by rw [e]; simp)
  obtain ⟨q, rfl, hq, hw, h12, h20⟩ := hasB_nat hh
  obtain ⟨a, ha, hal⟩ := other_nat hw hi hx
  obtain ⟨b, hb, hbl⟩ := other_nat hw hj hy
  refine ⟨i, j, q, a, b, e, rfl, hh, hi, hj, hq, ha, hal, hb, hbl, ?_, h12, h20⟩
  unfold strB
  rw [e]
  have e0 : atI ls ([(i : Int), (j : Int)].getD 0 0) = atN ls i := rfl
  have e1 : atI ls ([(i : Int), (j : Int)].getD 1 0) = atN ls j := rfl
  rw [e0, e1, ha, hb]
  rfl
theorem str_no {ns ls : List Nd} {k : Int} (h : (atsI ns ls k).length ≠ 2) : strB ns ls k = false := by
  unfold strB; rw [decide_eq_false h]; rfl
/-- The cells of nodes a, b, q and of leads i, j. -/
theorem str_cells {w W : World} {fs : List (Nat × Nat × Value)} {b1 o1 b2 o2 : Nat} {ns ls : List Nd} (h : Held w W fs) (h1 : CellsAt W b1 o1 ns) (hb1 : b1 < W.heap.size) (h2 : CellsAt W b2 o2 ls) (hb2 : b2 < W.heap.size)
    {i j a b q : Nat} (hi : i < ls.length) (hj : j < ls.length) (ha : a < ns.length) (hb : b < ns.length) (hq : q < ns.length) :
    Held w W (fs ++ (P1 b2 o2 ls i ++ (P1 b2 o2 ls j ++ (P1 b1 o1 ns a ++ (P1 b1 o1 ns b ++ P1 b1 o1 ns q))))) :=
  ⟨h.1.append ((P1_cs h2 hi).append ((P1_cs h2 hj).append ((P1_cs h1 ha).append ((P1_cs h1 hb).append (P1_cs h1 hq))))),
   h.2.1.append ((P1_bs hb2).append ((P1_bs hb2).append ((P1_bs hb1).append ((P1_bs hb1).append (P1_bs hb1))))), h.2.2⟩

theorem deg_two (ns ls : List Nd) (k : Int) : degI ns ls k = 2 ↔ (atsI ns ls k).length = 2 := by
  unfold degI
  by_cases h : hasB ns ls k = true
  · rw [if_pos h]; omega
  · rw [if_neg h]
    unfold atsI
    rw [if_neg h]
    simp

end Go.Proofs.YtnonebfdognlmaaGreat

namespace Go.Proofs.YtnonebfdognlmaaGreat
open Go.RowKit
set_option linter.unusedVariables false
set_option linter.unusedSimpArgs false

/-- The numbers before n at which p holds. -/
def fltL (p : Int → Bool) : Nat → List Int
  | 0 => []
  | n + 1 => if p n = true then fltL p n ++ [(n : Int)] else fltL p n
theorem fltL_len (p : Int → Bool) : ∀ n, (fltL p n).length ≤ n
  | 0 => Nat.le_refl _
  | n + 1 => by
    have := fltL_len p n
    unfold fltL
    split
    · simp; omega
    · omega
theorem fltL_none (p : Int → Bool) (h : ∀ k, p k = false) : ∀ n, fltL p n = []
  | 0 => rfl
  | n + 1 => by
    unfold fltL
    rw [h, fltL_none p h n]
    simp
theorem strB_has {ns ls : List Nd} {k : Int} (h : strB ns ls k = true) : hasB ns ls k = true := by
  by_cases h2 : (atsI ns ls k).length = 2
  · obtain ⟨_, _, _, _, _, _, _, hh, _⟩ := str_two h2; exact hh
  · rw [str_no h2] at h; cases h
def strsI (ns ls : List Nd) : List Int := fltL (strB ns ls) ns.length
theorem strsI_len (ns ls : List Nd) : (strsI ns ls).length ≤ 20 := by
  by_cases h : winB ns ls = true
  · have := fltL_len (strB ns ls) ns.length
    have := ((winB_iff ns ls).1 h).1.1.2
    unfold strsI; omega
  · unfold strsI
    rw [fltL_none _ (fun k => by
      by_cases hk : strB ns ls k = true
      · obtain ⟨_, _, _, hw, _⟩ := hasB_nat (strB_has hk); exact absurd hw h
      · simpa using hk)]
    simp

end Go.Proofs.YtnonebfdognlmaaGreat

namespace Go.Proofs.YtnonebfdognlmaaGreat
open Go.RowKit
set_option linter.unusedVariables false
set_option linter.unusedSimpArgs false

theorem insL_len (lt : Int → Int → Bool) (d : Int) (l : List Int) : (insL lt d l).length = l.length + 1 := insM_len lt d l _ (Nat.le_refl _)
/-- As many darts begin at a node as leads end there. -/
theorem aro_deg {ns ls : List Nd} (hw : winB ns ls = true) (k : Nat) : ∀ n, n ≤ ls.length → (aroL ns ls k (2 * n)).length = (atL ls k n).length
  | 0, _ => rfl
  | n + 1, h => by
    have ih := aro_deg hw k n (by omega)
    obtain ⟨p, q, e, hpq, _⟩ := leadOkB_spec (((winB_iff ns ls).1 hw).2.2 n (by omega)).1
    have d0 : dF ls (2 * n) = p := by
      unfold dF
      rw [if_neg (by omega), show 2 * n / 2 = n by omega, e]
    have d1 : dF ls (2 * n + 1) = q := by
      unfold dF
      rw [if_pos (by omega), show (2 * n + 1) / 2 = n by omega, e]
    have ea : atL ls k (n + 1) = if (atN ls n).x = k ∨ (atN ls n).y = k then atL ls k n ++ [(n : Int)] else atL ls k n := rfl
    have e1 : aroL ns ls k (2 * n + 1 + 1) = if dF ls (2 * n + 1) = k then insL (ltD ns ls k) ((2 * n + 1 : Nat) : Int) (aroL ns ls k (2 * n + 1)) else aroL ns ls k (2 * n + 1) := rfl
    have e0 : aroL ns ls k (2 * n + 1) = if dF ls (2 * n) = k then insL (ltD ns ls k) ((2 * n : Nat) : Int) (aroL ns ls k (2 * n)) else aroL ns ls k (2 * n) := rfl
    rw [show 2 * (n + 1) = 2 * n + 1 + 1 by omega, e1, e0, ea, d0, d1, e]
    by_cases hp : (p : Int) = k
    · have hq : ¬ (q : Int) = k := by omega
      rw [if_neg hq, if_pos hp, if_pos (.inl hp), insL_len, ih]; simp
    · by_cases hq : (q : Int) = k
      · rw [if_pos hq, if_neg hp, if_pos (.inr hq), insL_len, ih]; simp
      · rw [if_neg hq, if_neg hp, if_neg (fun h => h.elim hp hq), ih]

def endB (ns ls : List Nd) (k : Int) : Bool := decide (degI ns ls k = 1)
def endsI (ns ls : List Nd) : List Int := fltL (endB ns ls) ns.length
theorem endB_has {ns ls : List Nd} {k : Int} (h : endB ns ls k = true) : hasB ns ls k = true := by
  unfold endB degI at h
  by_cases hh : hasB ns ls k = true
  · exact hh
  · rw [if_neg hh] at h; simp at h
theorem endsI_none {ns ls : List Nd} (h : ¬ winB ns ls = true) : endsI ns ls = [] := fltL_none _ (fun k => by
  by_cases hk : endB ns ls k = true
  · obtain ⟨_, _, _, hw, _⟩ := hasB_nat (endB_has hk); exact absurd hw h
  · simpa using hk) _
theorem endsI_len (ns ls : List Nd) : (endsI ns ls).length ≤ 20 := by
  by_cases h : winB ns ls = true
  · have := fltL_len (endB ns ls) ns.length
    have := ((winB_iff ns ls).1 h).1.1.2
    unfold endsI; omega
  · rw [endsI_none h]; simp
theorem endB_aro {ns ls : List Nd} {k : Nat} (hw : winB ns ls = true) (hk : k < ns.length) : endB ns ls k = decide ((aroL ns ls k (2 * ls.length)).length = 1) := by
  have hh : hasB ns ls k = true := by
    unfold hasB
    rw [hw, (idxB_iff _ _).2 (by omega)]; rfl
  unfold endB degI atsI
  rw [if_pos hh, if_pos hh, aro_deg hw k _ (Nat.le_refl _), decide_eq_decide]
  omega

end Go.Proofs.YtnonebfdognlmaaGreat

namespace Go.Proofs.YtnonebfdognlmaaGreat
open Go.RowKit
set_option linter.unusedVariables false
set_option linter.unusedSimpArgs false

theorem twinI_tw {d : Nat} (h : d < 40) : twinI (d : Int) = (tw d : Nat) := by
  unfold twinI; rw [if_pos (by simp [inB]; omega), tw_xor h]

set_option maxRecDepth 100000 in
theorem implNextN (ns ls : List Nd) (vn vl : Value) (d : Nat) (w : World) (hn : Prs w vn ns) (hl : Prs w vl ls) (hw : winB ns ls = true) (hd : d < 2 * ls.length) :
    Calls Tryz.prog 126 #[.agg #[vn, vl], .int .i64 d] w (IntIs (nxN ns ls d : Nat) w) := by
  have HN := Lib.hid hn
  have HL := Lib.hid hl
  obtain ⟨A, c, rfl⟩ := prs_form2 hn
  obtain ⟨A2, c2, rfl⟩ := prs_form2 hl
  clear hn hl
  have H0 := Lib.hid (held_pair w (.slice A ns.length c) (.slice A2 ls.length c2) 59)
  have h20 := ((winB_iff ns ls).1 hw).1.2
  have HT := implTwin (d : Int)
  rw [twinI_tw (by omega)] at HT
  have HT := Lib.hid HT
  have HS := fun w h1 h2 => implTurned ns ls (.slice A ns.length c) (.slice A2 ls.length c2) (tw d) (-1) w h1 h2 hw (tw_lt hd) (.inr rfl)
  rw [nx_step hw hd] at HS
  unfold IntIs at HS
  have HS := Lib.hid HS
  clear hw hd h20
  generalize nxN ns ls d = r at *
  generalize tw d = t at *
  go_enter Tryz.func126, Tryz.ntmps126
  go_wp2_with fail
  refine regionD (S := fun W => Held _ W [(w.heap.size, 0, .slice A ns.length c), (w.heap.size, 1, .slice A2 ls.length c2)]) (by kernel_rfl) H0.out.drew ?_
  iterate 5 (refine takeT (v := ?_) rfl (by kernel_rfl) (by kernel_rfl) (by kernel_rfl) ?_ ?_; rotate_left; (first | (refine Or.inr ⟨by rfl, ?_⟩; with_reducible rfl) | (refine Or.inl ⟨by rfl, fun W hS => detRes_value (w' := W) ?_ hS⟩; obtain ⟨x0, x1, _⟩ := hS.1; go_simp; first | done | with_reducible rfl) | (refine Or.inl ⟨by rfl, fun W hS => ?_⟩; refine detRes_call (w' := W) (f := ?_) (args := ?_) ?_ ?_; rotate_left 2; (go_simp; (refine ⟨?_, ?_⟩ <;> with_reducible rfl)); (first | (with_reducible refine (HT.out _).mono ?_) | (with_reducible refine (HS.out _ (HN.out.step hS.below) (HL.out.step hS.below)).mono ?_) | fail); (first | (rintro e wn ⟨rfl, hb⟩; refine ⟨?_, hS.step hb⟩; with_reducible rfl) | (rintro e wn ⟨rfl, rfl⟩; refine ⟨?_, hS⟩; with_reducible rfl) | fail)) | fail); (simp only [Act.put, List.setIfInBounds_toArray, List.set_cons_zero, List.set_cons_succ]))
  refine doneD (by kernel_rfl) fun wH2 HS => ?_
  have H2 := Lib.hid HS; clear HS
  try clear x0 x1
  obtain ⟨x0, x1, _⟩ := H2.out.1
  go_wp2_with fail
  go_ret
  exact ⟨rfl, H2.out.below⟩

set_option maxRecDepth 100000 in
theorem specNextN (ns ls : List Nd) (vn vl : Value) (d : Nat) (w : World) (hn : Prs w vn ns) (hl : Prs w vl ls) (hw : winB ns ls = true) (hd : d < 2 * ls.length) :
    Calls Tryz.prog 80 #[.agg #[vn, vl], .int .i64 d] w (IntIs (nxN ns ls d : Nat) w) := by
  have HN := Lib.hid hn
  have HL := Lib.hid hl
  obtain ⟨A, c, rfl⟩ := prs_form2 hn
  obtain ⟨A2, c2, rfl⟩ := prs_form2 hl
  clear hn hl
  have H0 := Lib.hid (held_pair w (.slice A ns.length c) (.slice A2 ls.length c2) 32)
  have h20 := ((winB_iff ns ls).1 hw).1.2
  have hx := tw_xor (d := d) (by omega)
  have HS := fun w h1 h2 => specStep ns ls (.slice A ns.length c) (.slice A2 ls.length c2) (tw d) (-1) w h1 h2 hw (tw_lt hd) (.inr rfl)
  rw [nx_step hw hd] at HS
  unfold IntIs at HS
  have HS := Lib.hid HS
  clear hw hd h20
  generalize nxN ns ls d = r at *
  generalize tw d = t at *
  go_enter Tryz.func80, Tryz.ntmps80
  go_wp2_with fail
  refine (HS.out _ (HN.out.step H0.out.below) (HL.out.step H0.out.below)).mono ?_
  rintro e wH2 ⟨rfl, hb⟩
  have H2 := Lib.hid ((H0.out).step hb); clear hb
  try clear x0 x1
  obtain ⟨x0, x1, _⟩ := H2.out.1
  go_wp2_with fail
  go_ret
  exact ⟨rfl, H2.out.below⟩

end Go.Proofs.YtnonebfdognlmaaGreat

namespace Go.Proofs.YtnonebfdognlmaaGreat
open Go.RowKit
set_option linter.unusedVariables false
set_option linter.unusedSimpArgs false

theorem specInB (x a b : Int) (w : World) :
    Calls Tryz.prog 64 #[.int .i64 x, .int .i64 a, .int .i64 b] w (BoolIs (inB x a b) w) :=
  (specIn x a b w).mono fun e w' h => ⟨h.1, h.2 ▸ Below.refl _ _⟩

def PairIs (n : Nd) (w : World) (e : Ending) (w' : World) : Prop := e = .returned n.val ∧ Below w.heap.size w w'

def shB (s : Nd) : Bool := inB s.x 1 40 && inB s.y 1 40
theorem shB_iff (s : Nd) : shB s = true ↔ (1 ≤ s.x ∧ s.x ≤ 40) ∧ (1 ≤ s.y ∧ s.y ≤ 40) := by simp [shB, inB]

end Go.Proofs.YtnonebfdognlmaaGreat

namespace Go.Proofs.YtnonebfdognlmaaGreat
open Go.RowKit
set_option linter.unusedVariables false
set_option linter.unusedSimpArgs false

structure Tr where
  x : Int
  y : Int
  z : Int
deriving DecidableEq
def Tr.val (t : Tr) : Value := .agg #[.int .i64 t.x, .int .i64 t.y, .int .i64 t.z]
def TriIs (t : Tr) (w : World) (e : Ending) (w' : World) : Prop := e = .returned t.val ∧ Below w.heap.size w w'
theorem heldT1 (w : World) (a : Tr) (T : TypeId) : Held w (w.alloc (.cells #[.int .i64 a.x, .int .i64 a.y, .int .i64 a.z] T)) [(w.heap.size, 0, .int .i64 a.x), (w.heap.size, 1, .int .i64 a.y), (w.heap.size, 2, .int .i64 a.z)] :=
  (Held.none_ w).new2 w.heap.size rfl [.int .i64 a.x, .int .i64 a.y, .int .i64 a.z] T
theorem heldT2 (w : World) (a b : Tr) (T U : TypeId) : Held w ((w.alloc (.cells #[.int .i64 a.x, .int .i64 a.y, .int .i64 a.z] T)).alloc (.cells #[.int .i64 b.x, .int .i64 b.y, .int .i64 b.z] U)) [(w.heap.size + 1, 0, .int .i64 b.x), (w.heap.size + 1, 1, .int .i64 b.y), (w.heap.size + 1, 2, .int .i64 b.z), (w.heap.size, 0, .int .i64 a.x), (w.heap.size, 1, .int .i64 a.y), (w.heap.size, 2, .int .i64 a.z)] :=
  (heldT1 w a T).new2 (w.heap.size + 1) (by simp) [.int .i64 b.x, .int .i64 b.y, .int .i64 b.z] U

/-- Each of the three is in its range. -/
def triB (a1 a2 b1 b2 c1 c2 : Int) (t : Tr) : Bool := inB t.x a1 a2 && inB t.y b1 b2 && inB t.z c1 c2
theorem triB_iff (a1 a2 b1 b2 c1 c2 : Int) (t : Tr) : triB a1 a2 b1 b2 c1 c2 t = true ↔ (a1 ≤ t.x ∧ t.x ≤ a2) ∧ (b1 ≤ t.y ∧ t.y ≤ b2) ∧ (c1 ≤ t.z ∧ t.z ≤ c2) := by simp [triB, inB, and_assoc]
def fireB (t : Tr) : Bool := triB 400 900 1 24 1 100 t
def stainB (t : Tr) : Bool := triB 0 1000 0 1000 0 1000 t
def sunB (t : Tr) : Bool := triB (-1000) 1000 1 1000 1 100 t

theorem Ints.lit (w : World) (b B : Nat) (hb : b = w.heap.size) (hB : B ≤ b) (xs : List Int) (h : xs.length ≤ 1000000) (cs : Array Value) (hc : cs = (xs.map fun x => Value.int .i64 x).toArray) :
    Ints (w.alloc (.cells cs 3)) B (.slice (some ⟨b, 0, none⟩) xs.length xs.length) xs := by
  subst hb hc
  have := World.ownsRow_lit (base := B) (e := 3) (size := 1) w (xs.map fun x => Value.int .i64 x).toArray xs.length hB (by unfold maxLen; omega) (by simp)
  unfold Ints
  simpa using this

end Go.Proofs.YtnonebfdognlmaaGreat

namespace Go.Proofs.YtnonebfdognlmaaGreat
open Go.RowKit
set_option linter.unusedVariables false
set_option linter.unusedSimpArgs false

def sliceLen : Value → Nat
  | .slice _ n _ => n
  | _ => 0
theorem sliceLen_ints {w : World} {B : Nat} {v : Value} {xs : List Int} (h : Ints w B v xs) : sliceLen v = xs.length := by
  obtain ⟨A, c, rfl, _, _⟩ := h.form
  rfl

set_option maxRecDepth 100000 in
set_option maxHeartbeats 1000000 in
theorem implWalkN (ns ls : List Nd) (vn vl : Value) (d : Nat) (w : World) (hn : Prs w vn ns) (hl : Prs w vl ls) (hw : winB ns ls = true) (hd : d < 2 * ls.length) :
    Calls Tryz.prog 109 #[.agg #[vn, vl], .int .i64 d] w (IntsNew (walkN ns ls d) w) := by
  have HN := Lib.hid hn
  have HL := Lib.hid hl
  obtain ⟨A, c, rfl⟩ := prs_form2 hn
  obtain ⟨A2, c2, rfl⟩ := prs_form2 hl
  clear hn hl
  have H0 := Lib.hid (held_pair w (.slice A ns.length c) (.slice A2 ls.length c2) 59)
  obtain ⟨i0, hi, hz0, hz1, hz2⟩ := info_parts infoInt
  have HI := Lib.hid (And.intro hi (And.intro hz0 (And.intro hz1 hz2))); clear hi hz0 hz1 hz2
  have h20 := ((winB_iff ns ls).1 hw).1.2
  obtain ⟨p0, p1, p2, p3⟩ := perN_spec hw hd
  have HT := Lib.hid (fun (q : Nat) w h1 h2 (h : q < 2 * ls.length) => implNextN ns ls (.slice A ns.length c) (.slice A2 ls.length c2) q w h1 h2 hw h)
  unfold IntIs at HT
  have HLT := Lib.hid (itN_lt (nx_lt hw) hd)
  have HR := Lib.hid (show walkN ns ls d = wkL ns ls d (perN ns ls d) from rfl)
  have HLN := Lib.hid (wkL_len ns ls d)
  have HST := Lib.hid (wkL_succ ns ls d)
  have HZ := Lib.hid (show wkL ns ls d 0 = [] from rfl)
  have HIT := Lib.hid (fun k => show nxN ns ls (itN (nxN ns ls) k d) = itN (nxN ns ls) (k + 1) d from rfl)
  have HI0 := Lib.hid (show itN (nxN ns ls) 0 d = d from rfl)
  have HP2 := Lib.hid p2
  have HP3 := Lib.hid p3
  clear p2 p3 hw hd
  generalize walkN ns ls d = r at *
  generalize wkL ns ls d = wk at *
  generalize perN ns ls d = per at *
  generalize nxN ns ls = nx at *
  generalize itN nx = it at *
  go_enter Tryz.func109, Tryz.ntmps109
  go_wp2_with fail
  refine wp_scope_jumps 0 (fun a' w' => ∃ (m : Nat) (v u7 u8 u9 u10 u11 u12 u13 u14 u15 u16 u17 u18 : Value), m < per ∧ Ints w' (w.heap.size + 1) v (wk m) ∧ Held w w' [(w.heap.size, 0, .slice A ns.length c), (w.heap.size, 1, .slice A2 ls.length c2)] ∧ a' = { tmps := #[.agg #[.slice A ns.length c, .slice A2 ls.length c2], .int .i64 d, .pointer (some ⟨w.heap.size, 0, none⟩), undef, .slice none 0 0, v, .int .i64 (it m d : Nat), u7, u8, u9, u10, u11, u12, u13, u14, u15, u16, u17, u18, undef], defers := [] }) (fun a' _ => per - sliceLen (a'.tmps.getD 5 undef)) (by rfl) ?_ ?_
  · go_wp2_with fail
    go_step3
    have H1 := Lib.hid (H0.out.alloc (.cells #[] 3))
    have HOWN := Lib.hid (show Ints (((w.alloc (.cells #[.slice A ns.length c, .slice A2 ls.length c2] 59))).alloc (.cells #[] 3)) (w.heap.size + 1) _ (wk 0) from by rw [HZ.out]; exact Ints.made _ _ _ (by simp) (Nat.le_refl _))
    generalize ((w.alloc (.cells #[.slice A ns.length c, .slice A2 ls.length c2] 59))).alloc (.cells #[] 3) = w0 at *
    obtain ⟨x0, x1, _⟩ := H1.out.1
    have HIT0 := HIT.out 0
    have HST0 := HST.out 0
    rw [HI0.out] at HIT0 HST0
    have HTq := Lib.hid (fun w h1 h2 => HT.out d w h1 h2 (by have := HLT.out 0; rw [HI0.out] at this; exact this))
    rw [HIT0] at HTq
    clear HIT0
    have HS := Lib.hid HST0; clear HST0
    have HV := Lib.hid (sliceLen_ints HOWN.out)
    have hll := Nat.le_of_eq (HLN.out 0)
    have HNE := Lib.hid (HP3.out (0 + 1) (by omega))
    have HEQ := Lib.hid (show 0 + 1 = per → it (0 + 1) d = d from fun h => by rw [h]; exact HP2.out)
    have HLM := Lib.hid (HLN.out 0)
    have HLM2 := Lib.hid (HLN.out (0 + 1))
    have hsz1 : w.heap.size + 1 ≤ _ := H1.out.2.1.1
    generalize hq2 : it (0 + 1) d = q2 at *
    have HQ2 := Lib.hid hq2; clear hq2
    obtain ⟨hi, hz0, hzz1, hzz2⟩ := HI.out
    go_wp2_with (at_builtin; refine wpList_append_own _ rfl _ _ 41 rfl (w.heap.size + 1) 3 i0 (.int .i64 0) 1 8 Tryz.underlying41 hi hz0 hzz1 hzz2 rfl (by decide) _ _ _ rfl (World.ownsRow.alloc HOWN.out _) ⟨_, 0, none⟩ 1 1 [.int .i64 d] rfl rfl ?c1 ?c2 ?c3 ?c4 ?c5 ?_)
    case c1 => exact cell_one_new _ _ _
    case c2 => simp [Value.oneCell']
    case c3 => unfold maxLen; omega
    case c4 => omega
    case c5 => simp <;> omega
    intro v' w2 hown hgrow _
    have H2 := Lib.hid (H1.out.stepB (B := w.heap.size + 1) ⟨Nat.lt_succ_self _, Nat.lt_succ_self _, trivial⟩ (grown_below HOWN.out hsz1 hgrow) (Nat.le_succ _))
    have HO2 := Lib.hid (Ints.more hown); clear hown hgrow
    obtain ⟨x0, x1, _⟩ := H2.out.1
    go_wp2_with fail
    refine (HTq.out _ (HN.out.step H2.out.below) (HL.out.step H2.out.below)).mono ?_
    rintro e w3 ⟨rfl, hb⟩
    have H3 := Lib.hid (H2.out.step hb)
    have HO3 := Lib.hid (HO2.out.step hb); clear hb
    clear x0 x1
    by_cases hl : 0 + 1 < per
    · have hne := HNE.out hl
      have g : ((q2 : Int) == (d : Int)) = false := by rw [beq_eq_false_iff_ne]; omega
      have HV3 := Lib.hid (sliceLen_ints HO3.out)
      go_wp2_with fail
      go_step3
      exact ⟨rfl, 0 + 1, _, _, _, _, _, _, _, _, _, _, _, _, _, hl, by rw [HS.out]; exact HO3.out, H3.out, by rw [HQ2.out]⟩
    · have hpe : 0 + 1 = per := by omega
      have hqd := HEQ.out hpe
      have HP := Lib.hid hpe; clear hpe
      have g : ((q2 : Int) == (d : Int)) = true := by simp [hqd]
      go_wp2_with fail
      simp only [Exit.jump]
      go_ret
      exact ⟨_, rfl, by rw [HR.out, ← HP.out, HS.out]; exact HO3.out.mono (Nat.le_succ _), H3.out.below⟩
  · rintro a' w' ⟨m, v, u7, u8, u9, u10, u11, u12, u13, u14, u15, u16, u17, u18, hm, hown, hh, rfl⟩
    have HOWN := Lib.hid hown; clear hown
    have H1 := Lib.hid hh; clear hh
    clear H0
    obtain ⟨x0, x1, _⟩ := H1.out.1
    have HTq := Lib.hid (fun w h1 h2 => HT.out (it m d) w h1 h2 (HLT.out m))
    rw [HIT.out m] at HTq
    have HV := Lib.hid (sliceLen_ints HOWN.out)
    have hll := Nat.le_of_eq (HLN.out m)
    have HS := Lib.hid (HST.out m)
    have HNE := Lib.hid (HP3.out (m + 1) (by omega))
    have HEQ := Lib.hid (show m + 1 = per → it (m + 1) d = d from fun h => by rw [h]; exact HP2.out)
    have HLM := Lib.hid (HLN.out m)
    have HLM2 := Lib.hid (HLN.out (m + 1))
    have hsz1 : w.heap.size + 1 ≤ _ := H1.out.2.1.1
    generalize hq2 : it (m + 1) d = q2 at *
    have HQ2 := Lib.hid hq2; clear hq2
    generalize it m d = q at *
    obtain ⟨hi, hz0, hzz1, hzz2⟩ := HI.out
    go_wp2_with (at_builtin; refine wpList_append_own _ rfl _ _ 41 rfl (w.heap.size + 1) 3 i0 (.int .i64 0) 1 8 Tryz.underlying41 hi hz0 hzz1 hzz2 rfl (by decide) _ _ _ rfl (World.ownsRow.alloc HOWN.out _) ⟨_, 0, none⟩ 1 1 [.int .i64 q] rfl rfl ?c1 ?c2 ?c3 ?c4 ?c5 ?_)
    case c1 => exact cell_one_new _ _ _
    case c2 => simp [Value.oneCell']
    case c3 => unfold maxLen; omega
    case c4 => omega
    case c5 => simp <;> omega
    intro v' w2 hown hgrow _
    have H2 := Lib.hid (H1.out.stepB (B := w.heap.size + 1) ⟨Nat.lt_succ_self _, Nat.lt_succ_self _, trivial⟩ (grown_below HOWN.out hsz1 hgrow) (Nat.le_succ _))
    have HO2 := Lib.hid (Ints.more hown); clear hown hgrow
    obtain ⟨x0, x1, _⟩ := H2.out.1
    go_wp2_with fail
    refine (HTq.out _ (HN.out.step H2.out.below) (HL.out.step H2.out.below)).mono ?_
    rintro e w3 ⟨rfl, hb⟩
    have H3 := Lib.hid (H2.out.step hb)
    have HO3 := Lib.hid (HO2.out.step hb); clear hb
    clear x0 x1
    by_cases hl : m + 1 < per
    · have hne := HNE.out hl
      have g : ((q2 : Int) == (d : Int)) = false := by rw [beq_eq_false_iff_ne]; omega
      have HV3 := Lib.hid (sliceLen_ints HO3.out)
      go_wp2_with fail
      go_step3
      exact ⟨rfl, ⟨m + 1, _, _, _, _, _, _, _, _, _, _, _, _, _, hl, by rw [HS.out]; exact HO3.out, H3.out, by rw [HQ2.out]⟩, by simp; rw [HV3.out, HV.out, ← HS.out, HLM.out, HLM2.out]; omega⟩
    · have hpe : m + 1 = per := by omega
      have hqd := HEQ.out hpe
      have HP := Lib.hid hpe; clear hpe
      have g : ((q2 : Int) == (d : Int)) = true := by simp [hqd]
      go_wp2_with fail
      simp only [Exit.jump]
      go_ret
      exact ⟨_, rfl, by rw [HR.out, ← HP.out, HS.out]; exact HO3.out.mono (Nat.le_succ _), H3.out.below⟩

set_option maxRecDepth 100000 in
set_option maxHeartbeats 1000000 in
theorem specWalkN (ns ls : List Nd) (vn vl : Value) (d : Nat) (w : World) (hn : Prs w vn ns) (hl : Prs w vl ls) (hw : winB ns ls = true) (hd : d < 2 * ls.length) :
    Calls Tryz.prog 52 #[.agg #[vn, vl], .int .i64 d] w (IntsNew (walkN ns ls d) w) := by
  have HN := Lib.hid hn
  have HL := Lib.hid hl
  obtain ⟨A, c, rfl⟩ := prs_form2 hn
  obtain ⟨A2, c2, rfl⟩ := prs_form2 hl
  clear hn hl
  have H0 := Lib.hid (held_pair w (.slice A ns.length c) (.slice A2 ls.length c2) 32)
  obtain ⟨i0, hi, hz0, hz1, hz2⟩ := info_parts infoInt
  have HI := Lib.hid (And.intro hi (And.intro hz0 (And.intro hz1 hz2))); clear hi hz0 hz1 hz2
  have h20 := ((winB_iff ns ls).1 hw).1.2
  obtain ⟨p0, p1, p2, p3⟩ := perN_spec hw hd
  have HT := Lib.hid (fun (q : Nat) w h1 h2 (h : q < 2 * ls.length) => specNextN ns ls (.slice A ns.length c) (.slice A2 ls.length c2) q w h1 h2 hw h)
  unfold IntIs at HT
  have HLT := Lib.hid (itN_lt (nx_lt hw) hd)
  have HR := Lib.hid (show walkN ns ls d = wkL ns ls d (perN ns ls d) from rfl)
  have HLN := Lib.hid (wkL_len ns ls d)
  have HST := Lib.hid (wkL_succ ns ls d)
  have HZ := Lib.hid (show wkL ns ls d 0 = [] from rfl)
  have HIT := Lib.hid (fun k => show nxN ns ls (itN (nxN ns ls) k d) = itN (nxN ns ls) (k + 1) d from rfl)
  have HI0 := Lib.hid (show itN (nxN ns ls) 0 d = d from rfl)
  have HP2 := Lib.hid p2
  have HP3 := Lib.hid p3
  clear p2 p3 hw hd
  generalize walkN ns ls d = r at *
  generalize wkL ns ls d = wk at *
  generalize perN ns ls d = per at *
  generalize nxN ns ls = nx at *
  generalize itN nx = it at *
  go_enter Tryz.func52, Tryz.ntmps52
  go_wp2_with fail
  have HO0 := Lib.hid (Ints.lit (w.alloc (.cells #[.slice A ns.length c, .slice A2 ls.length c2] 32)) (w.heap.size + 1) (w.heap.size + 1) (by simp) (Nat.le_refl _) [(d : Int)] (by simp) _ rfl)
  have HT0 := Lib.hid (fun w h1 h2 => HT.out d w h1 h2 (by have := HLT.out 0; rw [HI0.out] at this; exact this))
  have H1 := Lib.hid (H0.out.alloc (.cells #[.int .i64 d] 3))
  refine (HT0.out _ (HN.out.step H1.out.below) (HL.out.step H1.out.below)).mono ?_
  rintro e w1 ⟨rfl, hb⟩
  have H2 := Lib.hid (H1.out.step hb)
  have HO2 := Lib.hid (HO0.out.step hb); clear hb
  clear H0 H1 HO0
  go_wp2_with fail
  go_loopw [5, 6] (fun v i wr => ∃ m : Nat, 0 < m ∧ m ≤ per ∧ i = .int .i64 (it m d : Nat) ∧ Ints wr (w.heap.size + 1) v (wk m) ∧ Held w wr [(w.heap.size, 0, .slice A ns.length c), (w.heap.size, 1, .slice A2 ls.length c2)]) (fun v _ _ => per - sliceLen v)
  case atStart => exact ⟨1, by omega, by omega, by rw [← HIT.out 0, HI0.out], by rw [HST.out 0, HZ.out, HI0.out]; exact HO2.out, H2.out⟩
  case round =>
    clear H2 HO2
    obtain ⟨m, h0, hm, rfl, hown, hh⟩ := hrel
    have HV := Lib.hid (sliceLen_ints hown)
    have HOWN := Lib.hid hown; clear hown
    have H1 := Lib.hid hh; clear hh
    obtain ⟨x0, x1, _⟩ := H1.out.1
    have hll := Nat.le_of_eq (HLN.out m)
    have hsz1 : w.heap.size + 1 ≤ _ := H1.out.2.1.1
    have HTq := Lib.hid (fun w h1 h2 => HT.out (it m d) w h1 h2 (HLT.out m))
    rw [HIT.out m] at HTq
    have HS := Lib.hid (HST.out m)
    have HNE := Lib.hid (HP3.out m h0)
    have HEQ := Lib.hid (show m = per → it m d = d from fun h => by rw [h]; exact HP2.out)
    have HLM := Lib.hid (HLN.out m)
    have HLM2 := Lib.hid (HLN.out (m + 1))
    generalize hq2 : it (m + 1) d = q2 at *
    have HQ2 := Lib.hid hq2; clear hq2
    generalize it m d = q at *
    by_cases hl : m < per
    · have hne := HNE.out hl
      have g : ((q : Int) == (d : Int)) = false := by rw [beq_eq_false_iff_ne]; omega
      obtain ⟨hi, hz0, hzz1, hzz2⟩ := HI.out
      go_wp2_with (at_builtin; refine wpList_append_own _ rfl _ _ 41 rfl (w.heap.size + 1) 3 i0 (.int .i64 0) 1 8 Tryz.underlying41 hi hz0 hzz1 hzz2 rfl (by decide) _ _ _ rfl (World.ownsRow.alloc HOWN.out _) ⟨_, 0, none⟩ 1 1 [.int .i64 q] rfl rfl ?c1 ?c2 ?c3 ?c4 ?c5 ?_)
      case c1 => exact cell_one_new _ _ _
      case c2 => simp [Value.oneCell']
      case c3 => unfold maxLen; omega
      case c4 => omega
      case c5 => simp <;> omega
      intro v' w2 hown hgrow _
      have H2 := Lib.hid (H1.out.stepB (B := w.heap.size + 1) ⟨Nat.lt_succ_self _, Nat.lt_succ_self _, trivial⟩ (grown_below HOWN.out hsz1 hgrow) (Nat.le_succ _))
      have HO2 := Lib.hid (Ints.more hown); clear hown hgrow
      clear x0 x1
      obtain ⟨x0, x1, _⟩ := H2.out.1
      go_wp2_with fail
      refine (HTq.out _ (HN.out.step H2.out.below) (HL.out.step H2.out.below)).mono ?_
      rintro e w3 ⟨rfl, hb⟩
      have H3 := Lib.hid (H2.out.step hb)
      have HO3 := Lib.hid (HO2.out.step hb); clear hb
      clear x0 x1
      have HV3 := Lib.hid (sliceLen_ints HO3.out)
      go_wp2_with fail
      exact ⟨⟨m + 1, by omega, by omega, by rw [HQ2.out], by rw [HS.out]; exact HO3.out, H3.out⟩, by rw [HV3.out, HV.out, ← HS.out, HLM.out, HLM2.out]; omega⟩
    · have hpe : m = per := by omega
      have hqd := HEQ.out hpe
      have HP := Lib.hid hpe; clear hpe
      have g : ((q : Int) == (d : Int)) = true := by simp [hqd]
      go_wp2_with fail
      go_ret
      exact ⟨_, rfl, by rw [HR.out, ← HP.out]; exact HOWN.out.mono (Nat.le_succ _), H1.out.below⟩

end Go.Proofs.YtnonebfdognlmaaGreat

namespace Go.Proofs.YtnonebfdognlmaaGreat
open Go.RowKit
set_option linter.unusedVariables false
set_option linter.unusedSimpArgs false

theorem wF_whole {ns ls : List Nd} (h : wholeB ns ls = true) : wF ns ls = facesN ns ls (2 * ls.length) := if_pos h
theorem walkN_len {ns ls : List Nd} {d : Nat} (hw : winB ns ls = true) (hd : d < 2 * ls.length) : 0 < (walkN ns ls d).length ∧ (walkN ns ls d).length ≤ 2 * ls.length := by
  obtain ⟨p0, p1, _, _⟩ := perN_spec hw hd
  unfold walkN
  rw [wkL_len]
  exact ⟨p0, p1⟩
theorem facesN_le (ns ls : List Nd) (n : Nat) : (facesN ns ls n).length ≤ n := by rw [facesN_len]; exact startsL_len ns ls n

set_option maxRecDepth 100000 in
set_option maxHeartbeats 4000000 in
theorem specFacesL (ns ls : List Nd) (vn vl : Value) (w : World) (hn : Prs w vn ns) (hl : Prs w vl ls) :
    Calls Tryz.prog 16 #[.agg #[vn, vl]] w (FacesNew (wF ns ls) w) := by
  have HN := Lib.hid hn
  have HL := Lib.hid hl
  obtain ⟨A, c, rfl⟩ := prs_form2 hn
  obtain ⟨A2, c2, rfl⟩ := prs_form2 hl
  clear hn hl
  have H0 := Lib.hid (held_pair w (.slice A ns.length c) (.slice A2 ls.length c2) 32)
  have HW := Lib.hid (fun w h1 h2 => specWhole ns ls (.slice A ns.length c) (.slice A2 ls.length c2) w h1 h2)
  have H1 := Lib.hid (H0.out.alloc (.cells #[] 41))
  have HF1 := Lib.hid (FaceV.made (w.alloc (.cells #[.slice A ns.length c, .slice A2 ls.length c2] 32)) (w.heap.size + 1) (w.heap.size + 1) (by simp) (Nat.le_refl _))
  by_cases hh : wholeB ns ls = true
  · obtain ⟨hw, hl0, h20, h12⟩ := whole_win hh
    obtain ⟨i0, hi, hz0, hz1, hz2⟩ := info_parts infoRow
    have HI := Lib.hid (And.intro hi (And.intro hz0 (And.intro hz1 hz2))); clear hi hz0 hz1 hz2
    have HT := Lib.hid (fun (d : Nat) w h1 h2 (h : d < 2 * ls.length) => specWalkN ns ls (.slice A ns.length c) (.slice A2 ls.length c2) d w h1 h2 hw h)
    unfold IntsNew at HT
    have HR := Lib.hid (wF_whole hh)
    have HWL := Lib.hid (fun d (h : d < 2 * ls.length) => walkN_len hw h)
    have HWD := Lib.hid (fun d (h : d < 2 * ls.length) i (hi : i < (walkN ns ls d).length) => walk_nat hw h (x := atZ (walkN ns ls d) i) (by rw [← atZ_get hi]; exact List.getElem_mem hi))
    have HSU := Lib.hid (facesN_succ ns ls)
    have HLE := Lib.hid (facesN_le ns ls)
    have HZ := Lib.hid (facesN_zero ns ls)
    rw [hh] at HW
    clear hh hw
    obtain ⟨N, hN⟩ : ∃ N, N = 2 * ls.length := ⟨_, rfl⟩
    have hNI : (2 * (ls.length : Int)) = (N : Int) := by omega
    have hmk : ∀ W : World, (Instr.makeSlice 54 (.int .i64 (2 * (ls.length : Int))) (.int .i64 (2 * (ls.length : Int)))).run Tryz.prog W = .ok (.slice (some ⟨W.heap.size, 0, none⟩) N N) (W.alloc (.cells (madeCells #[.bool false] N) 4)) := by
      rw [hNI]
      exact run_make_row' 54 4 (.bool false) 1 Tryz.underlying54 infoBool rfl .i64 .i64 N (by omega) (by omega)
    rw [← hN] at HT HR HWL HWD
    have hN40 : N ≤ 40 := by omega
    have hN0 : 0 < N := by omega
    clear hNI
    have HNE := Lib.hid hN; clear hN
    generalize wF ns ls = r0 at *
    generalize facesN ns ls = F at *
    generalize walkN ns ls = wk at *
    go_enter Tryz.func16, Tryz.ntmps16
    go_wp2_with fail
    refine (HW.out _ (HN.out.step H1.out.below) (HL.out.step H1.out.below)).mono ?_
    rintro e w1 ⟨rfl, hb⟩
    have H2 := Lib.hid (H1.out.step hb)
    have HF2 := Lib.hid (HF1.out.step hb)
    have hw1 : w.heap.size + 1 + 1 ≤ w1.heap.size := by have := hb.size; simp at this; omega
    clear hb H0 H1 HF1
    obtain ⟨x0, x1, _⟩ := H2.out.1
    go_wp2_with fail
    clear hmk
    go_loopw [3, 5] (fun v i wr => ∃ (d : Nat) (us : List Value), d ≤ N ∧ i = .int .i64 d ∧ FaceV wr (w.heap.size + 1) v us (F d) ∧ wr.rowIs w1.heap.size 4 N (fun q => .bool (seenB (F d) (q : Int))) ∧ Held w wr [(w.heap.size, 0, .slice A ns.length c), (w.heap.size, 1, .slice A2 ls.length c2)]) (fun _ i _ => N - (intOf i).toNat)
    case atStart => exact ⟨0, [], Nat.zero_le _, rfl, by rw [HZ.out]; exact HF2.out.step (below_alloc _ _), by rw [HZ.out]; exact World.rowIs_made _ _ _ _, H2.out.alloc _⟩
    case round =>
      clear H2 HF2 x0 x1
      obtain ⟨d, us, hd, rfl, hf, hrow, hh⟩ := hrel
      have HF := Lib.hid hf; clear hf
      have HB := Lib.hid hrow; clear hrow
      have H1 := Lib.hid hh; clear hh
      obtain ⟨x0, x1, _⟩ := H1.out.1
      by_cases hlt : d < N
      · have c0 := HB.out.cell hlt
        have q1 : (0 : Int) ≤ d := by omega
        have q2 : (d : Int) < (N : Int) := by omega
        by_cases hs : seenB (F d) (d : Int) = true
        · rw [hs] at c0
          have HS := Lib.hid (HSU.out d)
          have HS2 := Lib.hid hs; clear hs
          go_wp2_with fail
          exact ⟨⟨d + 1, us, by omega, by go_num, by rw [HS.out, if_pos HS2.out]; exact HF.out, by rw [HS.out, if_pos HS2.out]; exact HB.out, H1.out⟩, by simp [intOf]; omega⟩
        · have hsf : seenB (F d) (d : Int) = false := by simpa using hs
          rw [hsf] at c0
          have HS := Lib.hid (show F (d + 1) = F d ++ [wk d] from by rw [HSU.out d, if_neg hs])
          clear hs hsf
          have hle := HLE.out d
          have hul : us.length ≤ d := by rw [HF.out.len]; exact hle
          have hwl := HWL.out d hlt
          have HD := Lib.hid (HWD.out d hlt)
          have HTd := Lib.hid (fun w h1 h2 => HT.out d w h1 h2 hlt)
          have HASC := Lib.hid (fun j (hj : j < (F d).length) p (hp : (atV us j).ownBlock = some p) => ((HF.out.each j hj).own p hp).2)
          clear hle
          generalize F d = Fd at *
          generalize wk d = r at *
          go_wp2_with fail
          refine (HTd.out _ (HN.out.step H1.out.below) (HL.out.step H1.out.below)).mono ?_
          rintro e w3 ⟨vr, rfl, hm, hb⟩
          obtain ⟨g2, c3, rfl⟩ := hm.some_ hwl.1
          have H3 := Lib.hid (H1.out.step hb)
          have HF3 := Lib.hid (HF.out.step hb)
          have HB3 := Lib.hid (rowIs_step HB.out hb)
          obtain ⟨Br, hBr⟩ : ∃ Br, Br = wr.heap.size := ⟨_, rfl⟩
          have hBr1 : w.heap.size + 1 ≤ Br := by rw [hBr]; exact H1.out.2.1.1
          rw [← hBr] at hm HASC
          have HO3 := Lib.hid hm
          clear hb hm hBr H1 HF HB x0 x1 c0
          obtain ⟨x0, x1, _⟩ := H3.out.1
          go_wp2_with fail
          go_loopw [7] (fun i wq => ∃ m : Nat, m ≤ r.length ∧ i = .int .i64 m ∧ (∀ x, FaceV w3 (w.heap.size + 1) x us Fd → FaceV wq (w.heap.size + 1) x us Fd) ∧ Ints wq Br (.slice (some ⟨g2, 0, none⟩) r.length c3) r ∧ wq.rowIs w1.heap.size 4 N (fun q => .bool (seenB Fd (q : Int) || (r.take m).contains (q : Int))) ∧ Held w wq [(w.heap.size, 0, .slice A ns.length c), (w.heap.size, 1, .slice A2 ls.length c2)]) (fun i _ => r.length - (intOf i).toNat)
          case atStart => exact ⟨0, Nat.zero_le _, rfl, fun _ h => h, HO3.out, HB3.out.congr (fun q _ => by simp), H3.out⟩
          case round =>
            clear H3 HB3 HO3 x0 x1
            obtain ⟨m, hm, rfl, hf, ho, hrow, hh⟩ := hrel
            have HF := Lib.hid hf; clear hf
            have HO := Lib.hid ho; clear ho
            have HB := Lib.hid hrow; clear hrow
            have H1 := Lib.hid hh; clear hh
            obtain ⟨x0, x1, _⟩ := H1.out.1
            by_cases hmr : m < r.length
            · obtain ⟨k0, -, hg, -, -⟩ := HO.out.at_ hmr
              obtain ⟨q, hq, hqN⟩ := HD.out m hmr
              rw [hq] at k0
              have HTK := Lib.hid (fun x => take_has hmr x)
              rw [hq] at HTK
              clear hq
              have b0 := HB.out.frozen q
              have b1 := HB.out.cell hqN
              have hbl := HB.out.lt
              have p1 : (0 : Int) ≤ m := by omega
              have p2 : (m : Int) < (r.length : Int) := by omega
              have p3 : (0 : Int) ≤ q := by omega
              have p4 : (q : Int) < (N : Int) := by omega
              have HF4 := Lib.hid (fun x h => (HF.out x h).setFarB (j := q) (x := .bool true) HB.out)
              have HO4 := Lib.hid (HO.out.setFarB (j := q) (x := .bool true) HB.out)
              have HB4 := Lib.hid (HB.out.set q (.bool true))
              have H4 := Lib.hid (H1.out.setB (g := w1.heap.size) (j := q) (x := .bool true) (B := w.heap.size + 1) ⟨Nat.lt_succ_self _, Nat.lt_succ_self _, trivial⟩ (by omega) (Nat.le_succ _))
              go_wp2_with fail
              exact ⟨⟨m + 1, by omega, by go_num, HF4.out, HO4.out, HB4.out.congr (fun x hx => by
                rw [HTK.out]
                by_cases e : x = q
                · subst e; simp
                · rw [if_neg e]
                  have : ((x : Int) == (q : Int)) = false := by rw [beq_eq_false_iff_ne]; omega
                  rw [this, Bool.or_false]), H4.out⟩, by simp [intOf]; omega⟩
            · obtain rfl : m = r.length := by omega
              have HF := Lib.hid (HF.out _ HF3.out)
              have hsz1 := H1.out.2.1.1
              obtain ⟨hi, hz0, hzz1, hzz2⟩ := HI.out
              go_wp2_with (at_builtin; refine wpList_append_own _ rfl _ _ 27 rfl (w.heap.size + 1) 41 i0 (.slice none 0 0) 1 24 Tryz.underlying27 hi hz0 hzz1 hzz2 rfl (by decide) _ _ _ rfl (World.ownsRow.alloc HF.out.row _) ⟨_, 0, none⟩ 1 1 [.slice (some ⟨g2, 0, none⟩) r.length c3] rfl rfl ?c1 ?c2 ?c3 ?c4 ?c5 ?_)
              case c1 => exact cell_one_new _ _ _
              case c2 => simp [Value.oneCell']
              case c3 => unfold maxLen; omega
              case c4 => omega
              case c5 => simp <;> omega
              intro v' w4 hown hgrow _
              have HBA := HB.out.alloc (.cells #[.slice (some ⟨g2, 0, none⟩) r.length c3] 41)
              have HFA := HF.out.step (below_alloc _ (.cells #[.slice (some ⟨g2, 0, none⟩) r.length c3] 41))
              have H4 := Lib.hid (H1.out.stepB (B := w.heap.size + 1) ⟨Nat.lt_succ_self _, Nat.lt_succ_self _, trivial⟩ (grown_belowR HF.out.row hsz1 hgrow) (Nat.le_succ _))
              have HB4 := Lib.hid (rowIs_grown HBA hgrow (fun e => HFA.row.farB HBA e rfl))
              have HF4 := Lib.hid (HFA.more ((HO.out.step (below_alloc _ _)).mono hBr1) (fun j hj p q hp hq => by have h1 := HASC.out j hj p hp; have h2 := (HO.out.own q hq).1; omega) hgrow hown)
              clear hown hgrow HBA HFA
              go_wp2_with fail
              exact ⟨⟨d + 1, _, by omega, by go_num, by rw [HS.out]; exact HF4.out, by rw [HS.out]; exact HB4.out.congr (fun x hx => by rw [seenB_app, List.take_length]), H4.out⟩, by simp [intOf]; omega⟩
      · obtain rfl : d = N := by omega
        go_wp2_with fail
        go_ret
        exact ⟨_, rfl, by rw [HR.out]; exact ⟨us, HF.out.mono (Nat.le_succ _)⟩, H1.out.below⟩
  · have HR := Lib.hid (show wF ns ls = [] from if_neg hh)
    rw [show wholeB ns ls = false by simpa using hh] at HW
    clear hh
    generalize wF ns ls = r0 at *
    go_enter Tryz.func16, Tryz.ntmps16
    go_wp2_with fail
    refine (HW.out _ (HN.out.step H1.out.below) (HL.out.step H1.out.below)).mono ?_
    rintro e w1 ⟨rfl, hb⟩
    have H2 := Lib.hid (H1.out.step hb)
    have HF2 := Lib.hid (HF1.out.step hb)
    clear hb H0 H1 HF1
    obtain ⟨x0, x1, _⟩ := H2.out.1
    go_wp2_with fail
    go_ret
    exact ⟨_, rfl, by rw [HR.out]; exact ⟨_, HF2.out.mono (Nat.le_succ _)⟩, H2.out.below⟩
end Go.Proofs.YtnonebfdognlmaaGreat

namespace Go.Proofs.YtnonebfdognlmaaGreat
open Go.RowKit Go.Maps
set_option linter.unusedVariables false
set_option linter.unusedSimpArgs false

/-- An element of the map reads as itself. -/
def heldR (v : Value) : Option (DataW Value × List MemPlace) := some (.held v, [])
def keyL (k : Nat) : Lit := .int .i64 (k : Int)
theorem keyL_ne {a b : Nat} (h : a ≠ b) : keyL a ≠ keyL b := fun e => h (by unfold keyL at e; injection e with _ e; exact Int.ofNat_inj.1 e)

/-- Block b is a map of at most n entries: at key ks[i] lies us[i]; there is no other key. -/
def MapIs (w : World) (b n : Nat) (ks : List Nat) (us : List Value) : Prop :=
  ∃ D : DataW Value, w.ownsMap Tryz.prog 3 heldR b n D ∧ ks.length = us.length ∧ (∀ x : Int, Maps.has D (.int .i64 x) = true ↔ ∃ k : Nat, k ∈ ks ∧ x = k) ∧ ∀ i (hi : i < ks.length), ∀ z, D.atKey (keyL ks[i]) z = .held (atV us i)
theorem ownsMap_of_block {w w' : World} {b n : Nat} {D : DataW Value} (h : w.ownsMap Tryz.prog 3 heldR b n D) (e : w'.heap[b]? = w.heap[b]?) : w'.ownsMap Tryz.prog 3 heldR b n D := by
  obtain ⟨es, clock, hb, r⟩ := h
  exact ⟨es, clock, e.trans hb, r⟩
section
variable {w w' : World} {b n : Nat} {ks : List Nat} {us : List Value}
theorem MapIs.lt (h : MapIs w b n ks us) : b < w.heap.size := by obtain ⟨D, h, _⟩ := h; exact h.lt
theorem MapIs.of_block (h : MapIs w b n ks us) (e : w'.heap[b]? = w.heap[b]?) : MapIs w' b n ks us := by
  obtain ⟨D, h1, r⟩ := h
  exact ⟨D, ownsMap_of_block h1 e, r⟩
theorem MapIs.step (h : MapIs w b n ks us) (hb : Below w.heap.size w w') : MapIs w' b n ks us := h.of_block (hb.block b h.lt)
theorem MapIs.setFar (h : MapIs w b n ks us) {g j : Nat} (hne : b ≠ g) (x : Value) : MapIs (w.setCell ⟨g, j, none⟩ x) b n ks us := h.of_block (Below.heap_setCell _ _ _ _ hne)
theorem MapIs.grown {row : Option Nat} (h : MapIs w b n ks us) (hg : w.grownBy w' row) (hr : row ≠ some b) : MapIs w' b n ks us := h.of_block (hg.block b h.lt fun e => hr e.symm)
theorem MapIs.mono (h : MapIs w b n ks us) {m : Nat} (hm : n ≤ m) : MapIs w b m ks us := by obtain ⟨D, h1, r⟩ := h; exact ⟨D, h1.mono hm, r⟩
theorem MapIs.len (h : MapIs w b n ks us) : ks.length = us.length := by obtain ⟨D, _, h, _⟩ := h; exact h
theorem MapIs.made (w : World) : MapIs (w.alloc (.map #[] 0)) w.heap.size 0 [] [] :=
  ⟨.map [], World.ownsMap_made w _ _ _, rfl, fun x => by simp [Maps.has], fun i hi => by simp at hi⟩
/-- The map lies in no row of cells. -/
theorem MapIs.far (h : MapIs w b n ks us) {g : Nat} {cur : Array Value} {T : TypeId} {fr : Nat × Nat} (hg : w.heap[g]? = some (.cells cur T fr)) : b ≠ g := by
  rintro rfl
  obtain ⟨D, ⟨es, clock, hb, _⟩, _⟩ := h
  rw [hg] at hb
  cases hb
theorem lit_key (k : Nat) : WideAt.IsKeyLit (keyL k) := trivial
/-- A value is stored at a new key. -/
theorem MapIs.put_ {D : DataW Value} {k : Nat} {u : Value} (hl : ks.length = us.length) (hh : ∀ x : Int, Maps.has D (.int .i64 x) = true ↔ ∃ k : Nat, k ∈ ks ∧ x = k) (ha : ∀ i (hi : i < ks.length), ∀ z, D.atKey (keyL ks[i]) z = .held (atV us i)) (hm : IsMap D) (hnew : k ∉ ks)
    (h : w'.ownsMap Tryz.prog 3 heldR b (n + 1) (D.put (keyL k) (.held u))) : MapIs w' b (n + 1) (ks ++ [k]) (us ++ [u]) := by
  refine ⟨_, h, by simp [hl], fun x => ?_, fun i hi z => ?_⟩
  · by_cases e : x = (k : Int)
    · subst e
      rw [show (Lit.int .i64 (k : Int)) = keyL k from rfl, has_put_same hm (lit_key k)]
      exact ⟨fun _ => ⟨k, by simp, rfl⟩, fun _ => rfl⟩
    · rw [has_put_other (fun e2 => e (by unfold keyL at e2; injection e2 with _ e2)), hh]
      constructor
      · rintro ⟨q, hq, rfl⟩; exact ⟨q, by simp [hq], rfl⟩
      · rintro ⟨q, hq, rfl⟩
        rw [List.mem_append] at hq
        rcases hq with hq | hq
        · exact ⟨q, hq, rfl⟩
        · simp at hq; subst hq; exact absurd rfl e
  · by_cases e : i < ks.length
    · have e1 : (ks ++ [k])[i] = ks[i] := by simp [List.getElem_append, e]
      rw [e1, atV_old (by omega), atKey_put_other (keyL_ne (fun e2 => hnew (by rw [← e2]; exact List.getElem_mem e)))]
      exact ha i e z
    · have e2 : i = ks.length := by simp at hi; omega
      subst e2
      have e1 : (ks ++ [k])[ks.length]'hi = k := by simp
      rw [e1, hl, atV_new]
      exact atKey_put_same hm (lit_key k) _ _
theorem keyOf_nat {k : Nat} (hk : k ≤ 1000000) : keyOf Tryz.prog 3 (.int .i64 (k : Int)) = some (keyL k) := keyOf_int_mk Tryz.underlying3 (WalkArith.wf_i64 (by omega))
theorem mapLaw : Keyed Tryz.prog 3 := int_keyed Tryz.underlying3
theorem isMap_owns {D : DataW Value} (h : w.ownsMap Tryz.prog 3 heldR b n D) : IsMap D := by
  obtain ⟨es, clock, _, _, _, rfl⟩ := h
  exact ⟨_, rfl⟩
theorem MapIs.run_look (h : MapIs w b n ks us) {i : Nat} (hi : i < ks.length) (hk : ks[i] ≤ 1000000) :
    (Instr.lookup 91 (.map (some b)) (.int .i64 (ks[i] : Int)) false).run Tryz.prog w = .ok (atV us i) w := by
  obtain ⟨D, h1, _, _, ha⟩ := h
  obtain ⟨v, ps, hrun, hv⟩ := h1.lookup (t := 91) (e := 41) (z := .slice none 0 0) (zd := .held (.slice none 0 0)) (zp := []) mapLaw Tryz.underlying91 (by kernel_rfl) rfl (keyOf_nat hk)
  have h2 : some (DataW.held v, ([] : List MemPlace)) = some (DataW.held (atV us i), ps) := by rw [← ha i hi (.held (.slice none 0 0))]; exact hv
  have hv : v = atV us i := DataW.held.inj (Prod.mk.inj (Option.some.inj h2)).1
  rw [hrun, hv]
end
/-- The look-up, at the operation. -/
theorem wpList_look (w : World) {ops : Array Oper} {rest : List Oper} {o : Oper} {a : Act} {Q : Exit → Act → World → Prop}
    (hg : o.guard = none) (m x : Operand) (hop : o.op = Op.lookup 91 m x false) {b n : Nat} {ks : List Nat} {us : List Value} (h : MapIs w b n ks us) {i : Nat} (hi : i < ks.length) {k : Int} (hk : k = (ks[i] : Int)) (hb : ks[i] ≤ 1000000)
    (hm : a.eval m = .map (some b)) (hx : a.eval x = .int .i64 k) {u : Value} (hu : atV us i = u) (hK : wpList Tryz.prog ops Q rest (a.put o.dst u) w) :
    wpList Tryz.prog ops Q (o :: rest) a w := by
  refine wpList_plain hg fun K' hK' => ?_
  have hrun := h.run_look hi hb
  rw [hu] at hrun
  unfold Oper.wp
  simp [execOp, hop, hm, hx, hk, hrun, Result.andThen]
  exact hK' _ _ hK
theorem wpList_lookNew (w : World) {ops : Array Oper} {rest : List Oper} {o : Oper} {a : Act} {Q : Exit → Act → World → Prop}
    (hg : o.guard = none) (m x : Operand) (hop : o.op = Op.lookup 91 m x false) {b n : Nat} {ks : List Nat} {us : List Value} {k : Nat} {u : Value} (h : MapIs w b n (ks ++ [k]) (us ++ [u])) (hb : k ≤ 1000000)
    (hm : a.eval m = .map (some b)) (hx : a.eval x = .int .i64 (k : Int)) (hK : wpList Tryz.prog ops Q rest (a.put o.dst u) w) :
    wpList Tryz.prog ops Q (o :: rest) a w := by
  have hl := h.len
  simp at hl
  exact wpList_look w hg m x hop h (i := ks.length) (by simp) (k := (k : Int)) (by simp) (by simpa using hb) hm hx (by rw [hl, atV_new]) hK
/-- The store at a new key, at the operation. -/
theorem wpList_put (w : World) {ops : Array Oper} {rest : List Oper} {o : Oper} {a : Act} {Q : Exit → Act → World → Prop}
    (hg : o.guard = none) (m x v : Operand) (hop : o.op = Op.mapUpdate 91 m x v) {b n : Nat} {ks : List Nat} {us : List Value} (h : MapIs w b n ks us) {k : Nat} {u : Value} (hk : k ≤ 1000000) (hn : n ≤ 1000000) (hnew : k ∉ ks)
    (hm : a.eval m = .map (some b)) (hx : a.eval x = .int .i64 (k : Int)) (hv : a.eval v = u) (hK : ∀ w', MapIs w' b (n + 1) (ks ++ [k]) (us ++ [u]) → w.grownBy w' (some b) → wpList Tryz.prog ops Q rest (a.put o.dst undef) w') :
    wpList Tryz.prog ops Q (o :: rest) a w := by
  obtain ⟨D, h1, hl, hh, ha⟩ := h
  refine wpList_mapUpdate_own w hg m x v _ hop 3 41 mapLaw Tryz.underlying91 heldR b n D hm h1 (by unfold maxLen; omega) _ u (keyL k) hx hv (keyOf_nat hk) (.held u) [] rfl ?_
  intro w' h2 hg2
  exact hK w' (MapIs.put_ hl hh ha (isMap_owns h1) hnew h2) hg2

/-- slices.Sort's two contracts in this seat. -/
theorem sortsI (m : Nat) : AnyZI.SortsIn Tryz.prog Tryz.sortedI_ren Fence.wide m :=
  ⟨fun blk off cap ss W hH hblk hsz => callsIn_wide.2 (Any.slices_Sort_int Tryz.lays189 blk off cap ss W hH hblk hsz),
   fun p cap W => callsIn_wide.2 (Any.slices_Sort_int_none Tryz.lays189 p cap W)⟩
theorem keysC (mb : Option Nat) (W : World) : Calls Tryz.prog 87 #[.map mb] W fun e w' => e = .returned (.func (.func 112) #[] #[.pointer (some ⟨W.heap.size, 0, none⟩)]) ∧ w' = W.alloc (.cells #[.map mb] 91) :=
  (callsIn_wide (n := 5)).1 (AnyZI.keys_in Tryz.keysI Fence.wide 5 trivial rfl mb W)
theorem sorted_keys {ks : List Nat} {ss : List Int} {D : DataW Value} {w : World} {b n : Nat} (hown : w.ownsMap Tryz.prog 3 heldR b n D) (hh : ∀ x : Int, Maps.has D (.int .i64 x) = true ↔ ∃ k : Nat, k ∈ ks ∧ x = k) (hs : ks.Pairwise (· < ·)) (hp : ss.Perm (intKeys D)) :
    (ss.mergeSort fun x y => decide (x ≤ y)) = ks.map fun k : Nat => (k : Int) := by
  have hnd : (ks.map fun k : Nat => (k : Int)).Nodup := by
    rw [List.nodup_iff_pairwise_ne, List.pairwise_map]
    exact hs.imp fun h e => by omega
  have hC : CollectedI D (fun _ => false) (ks.map fun k : Nat => (k : Int)) := ⟨hnd, fun x => by
    rw [hh x]
    simp only [List.mem_map, and_true]
    constructor
    · rintro ⟨k, hk, rfl⟩; exact ⟨k, hk, rfl⟩
    · rintro ⟨k, hk, rfl⟩; exact ⟨k, hk, rfl⟩⟩
  have h1 := hC.perm hown mapLaw Tryz.underlying3 (fun _ => rfl)
  have h2 := mergeSort_of_perm_i (hp.trans h1.symm)
  unfold leI at h2
  rw [h2]
  exact List.mergeSort_of_pairwise (by
    rw [List.pairwise_map]
    exact hs.imp fun h => by simp; omega)
theorem sortedC {w : World} {b n : Nat} {ks : List Nat} {us : List Value} (h : MapIs w b n ks us) (hs : ks.Pairwise (· < ·)) (hl : ks.length ≤ 1000000) :
    Calls Tryz.prog 86 #[.func (.func 112) #[] #[.pointer (some ⟨w.heap.size, 0, none⟩)]] (w.alloc (.cells #[.map (some b)] 91)) (IntsNew (ks.map fun k : Nat => (k : Int)) (w.alloc (.cells #[.map (some b)] 91))) := by
  obtain ⟨D, hown, hl2, hh, ha⟩ := h
  have hbl := hown.lt
  have hsz : Maps.size D = ks.length := by
    have hC : CollectedI D (fun _ => false) (ks.map fun k : Nat => (k : Int)) := ⟨by
      rw [List.nodup_iff_pairwise_ne, List.pairwise_map]
      exact hs.imp fun h e => by omega, fun x => by
      rw [hh x]
      simp only [List.mem_map, and_true]
      constructor
      · rintro ⟨k, hk, rfl⟩; exact ⟨k, hk, rfl⟩
      · rintro ⟨k, hk, rfl⟩; exact ⟨k, hk, rfl⟩⟩
    have h1 := (hC.perm hown mapLaw Tryz.underlying3 (fun _ => rfl)).length_eq
    obtain ⟨es, rfl⟩ := isMap_owns hown
    rw [List.length_map] at h1
    rw [h1]
    simp [intKeys, Maps.size]
  have hseq : SeqGives Fence.wide 2 Tryz.prog 112 #[.pointer (some ⟨w.heap.size, 0, none⟩)] encZ (fun ss => ss.Perm (intKeys D)) (Maps.size D) (w.alloc (.cells #[.map (some b)] 91)) :=
    AnyZI.keys_gives (ρ := Tryz.keysI_ren) { Tryz.keysI with } Fence.wide _ trivial rfl (by omega) w.heap.size b n D _ (by simp) (by simp) (by
      obtain ⟨es, clock, hb, Ft, hs, hD⟩ := hown
      exact ⟨es, clock, (Below.heap_alloc _ _ b hbl).trans hb, Ft, hs, hD⟩)
  have cS := AnyZI.sorted_in Tryz.sortedI Fence.wide 5 trivial trivial trivial trivial rfl (by omega) (sortsI _) (enters_of Tryz.func111 (by kernel_rfl) rfl) 112 #[.pointer (some ⟨w.heap.size, 0, none⟩)] trivial (enters_of Tryz.func112 (by kernel_rfl) rfl) _ _ (by rw [hsz]; unfold maxLen; omega) (by rw [hsz]; omega) _ hseq
  change CallsIn _ _ Tryz.prog 86 _ _ _ at cS
  refine ((callsIn_wide (n := 5)).1 cS).mono ?_
  rintro e w' ⟨v, ss, rfl, hS, hrow, -, hb⟩
  have hk := sorted_keys hown hh hs hS
  refine ⟨v, rfl, ?_, hb⟩
  rw [hk] at hrow
  have hlen : ss.length = (ks.map fun k : Nat => (k : Int)).length := by rw [← hk]; simp
  unfold Ints
  rw [← hlen]
  exact hrow
end Go.Proofs.YtnonebfdognlmaaGreat

namespace Go.Proofs.YtnonebfdognlmaaGreat
open Go.RowKit
set_option linter.unusedVariables false
set_option linter.unusedSimpArgs false

theorem startsL_new (ns ls : List Nd) (n : Nat) : n ∉ startsL ns ls n := fun h => by have := startsL_lt ns ls n n h; omega
theorem size_alloc2 (w : World) (o p : Obj) : ((w.alloc o).alloc p).heap.size = w.heap.size + 1 + 1 := by simp
/-- What is returned: a new map that holds the rows rs at the keys ks. -/
def WalksNew (ks : List Nat) (rs : List (List Int)) (w : World) (e : Ending) (w' : World) : Prop :=
  ∃ b us, e = .returned (.map (some b)) ∧ MapIs w' b 40 ks us ∧ w.heap.size ≤ b ∧ RowsOf w' w.heap.size us rs ∧ Below w.heap.size w w'

set_option maxRecDepth 100000 in
set_option maxHeartbeats 4000000 in
theorem implWalksBy (ns ls : List Nd) (vn vl : Value) (w : World) (hn : Prs w vn ns) (hl : Prs w vl ls) (hw : winB ns ls = true) (hl0 : 0 < ls.length) :
    Calls Tryz.prog 85 #[.agg #[vn, vl]] w (WalksNew (startsL ns ls (2 * ls.length)) (facesN ns ls (2 * ls.length)) w) := by
  have HN := Lib.hid hn
  have HL := Lib.hid hl
  obtain ⟨A, c, rfl⟩ := prs_form2 hn
  obtain ⟨A2, c2, rfl⟩ := prs_form2 hl
  clear hn hl
  have H0 := Lib.hid (held_pair w (.slice A ns.length c) (.slice A2 ls.length c2) 59)
  have h20 := ((winB_iff ns ls).1 hw).1.2
  have HT := Lib.hid (fun (d : Nat) w h1 h2 (h : d < 2 * ls.length) => implWalkN ns ls (.slice A ns.length c) (.slice A2 ls.length c2) d w h1 h2 hw h)
  unfold IntsNew at HT
  have HWL := Lib.hid (fun d (h : d < 2 * ls.length) => walkN_len hw h)
  have HWD := Lib.hid (fun d (h : d < 2 * ls.length) i (hi : i < (walkN ns ls d).length) => walk_nat hw h (x := atZ (walkN ns ls d) i) (by rw [← atZ_get hi]; exact List.getElem_mem hi))
  have HSU := Lib.hid (facesN_succ ns ls)
  have HST := Lib.hid (startsL_succ ns ls)
  have HSN := Lib.hid (startsL_new ns ls)
  have HLE := Lib.hid (facesN_le ns ls)
  have HSL := Lib.hid (startsL_len ns ls)
  have HZ := Lib.hid (facesN_zero ns ls)
  have HZ2 := Lib.hid (show startsL ns ls 0 = [] from rfl)
  clear hw
  obtain ⟨N, hN⟩ : ∃ N, N = 2 * ls.length := ⟨_, rfl⟩
  have hNI : (2 * (ls.length : Int)) = (N : Int) := by omega
  have hmk : ∀ W : World, (Instr.makeSlice 54 (.int .i64 (2 * (ls.length : Int))) (.int .i64 (2 * (ls.length : Int)))).run Tryz.prog W = .ok (.slice (some ⟨W.heap.size, 0, none⟩) N N) (W.alloc (.cells (madeCells #[.bool false] N) 4)) := by
    rw [hNI]
    exact run_make_row' 54 4 (.bool false) 1 Tryz.underlying54 infoBool rfl .i64 .i64 N (by omega) (by omega)
  have hmm := @run_makeMap Tryz.prog
  rw [← hN] at HT HWL HWD ⊢
  have hN40 : N ≤ 40 := by omega
  clear hNI
  have HNE := Lib.hid hN; clear hN
  generalize facesN ns ls = F at *
  generalize startsL ns ls = K at *
  generalize walkN ns ls = wk at *
  go_enter Tryz.func85, Tryz.ntmps85
  go_wp2_with fail
  clear hmk hmm
  go_loopw [16] (fun i wr => ∃ (d : Nat) (us : List Value), d ≤ N ∧ i = .int .i64 d ∧ MapIs wr (w.heap.size + 1) d (K d) us ∧ RowsOf wr w.heap.size us (F d) ∧ wr.rowIs (w.heap.size + 1 + 1) 4 N (fun q => .bool (seenB (F d) (q : Int))) ∧ Held w wr [(w.heap.size, 0, .slice A ns.length c), (w.heap.size, 1, .slice A2 ls.length c2)]) (fun i _ => N - (intOf i).toNat)
  case atStart =>
    refine ⟨0, [], Nat.zero_le _, rfl, ?_, by rw [HZ.out]; exact RowsOf.nil _ _, ?_, (H0.out.alloc _).alloc _⟩
    · have := (MapIs.made (w.alloc (.cells #[.slice A ns.length c, .slice A2 ls.length c2] 59))).step (below_alloc _ (.cells (madeCells #[.bool false] N) 4))
      rw [HZ2.out]
      simpa using this
    · have := World.rowIs_made ((w.alloc (.cells #[.slice A ns.length c, .slice A2 ls.length c2] 59)).alloc (.map #[] 0)) (.bool false) N 4
      rw [HZ.out]
      simp only [size_alloc2] at this
      exact this.congr fun q _ => by simp [seenB]
  case round =>
    clear H0
    obtain ⟨d, us, hd, rfl, hmp, hf, hrow, hh⟩ := hrel
    have HM := Lib.hid hmp; clear hmp
    have HF := Lib.hid hf; clear hf
    have HB := Lib.hid hrow; clear hrow
    have H1 := Lib.hid hh; clear hh
    obtain ⟨x0, x1, _⟩ := H1.out.1
    by_cases hlt : d < N
    · have c0 := HB.out.cell hlt
      have q1 : (0 : Int) ≤ d := by omega
      have q2 : (d : Int) < (N : Int) := by omega
      by_cases hs : seenB (F d) (d : Int) = true
      · rw [hs] at c0
        have HS := Lib.hid (HSU.out d)
        have HS3 := Lib.hid (HST.out d)
        have HS2 := Lib.hid hs; clear hs
        go_wp2_with fail
        exact ⟨⟨d + 1, us, by omega, by go_num, by rw [HS3.out, if_pos HS2.out]; exact HM.out.mono (Nat.le_succ _), by rw [HS.out, if_pos HS2.out]; exact HF.out, by rw [HS.out, if_pos HS2.out]; exact HB.out, H1.out⟩, by simp [intOf]; omega⟩
      · have hsf : seenB (F d) (d : Int) = false := by simpa using hs
        rw [hsf] at c0
        have HS := Lib.hid (show F (d + 1) = F d ++ [wk d] from by rw [HSU.out d, if_neg hs])
        have HS3 := Lib.hid (show K (d + 1) = K d ++ [d] from by rw [HST.out d, if_neg hs])
        clear hs hsf
        have hwl := HWL.out d hlt
        have HNW := Lib.hid (HSN.out d)
        have hkl := HSL.out d
        have HD := Lib.hid (HWD.out d hlt)
        have HTd := Lib.hid (fun w h1 h2 => HT.out d w h1 h2 hlt)
        have HASC := Lib.hid (fun j (hj : j < (F d).length) p (hp : (atV us j).ownBlock = some p) => ((HF.out.each j hj).own p hp).2)
        generalize F d = Fd at *
        generalize K d = Kd at *
        generalize wk d = r at *
        go_wp2_with fail
        refine (HTd.out _ (HN.out.step H1.out.below) (HL.out.step H1.out.below)).mono ?_
        rintro e w3 ⟨vr, rfl, hm, hb⟩
        obtain ⟨g2, c3, rfl⟩ := hm.some_ hwl.1
        have hsz0 := HB.out.lt
        have hsz3 := hb.size
        have H3 := Lib.hid (H1.out.step hb)
        have HM3 := Lib.hid (HM.out.step hb)
        have HB3 := Lib.hid (rowIs_step HB.out hb)
        have HR3 := Lib.hid ((HF.out.step hb).more (hm.mono (by omega)) (fun j hj p q hp hq => by have h1 := HASC.out j hj p hp; have h2 := (hm.own q hq).1; omega))
        have HO3 := Lib.hid (hm.mono (show w.heap.size ≤ wr.heap.size by omega))
        clear hb hm H1 HM HF HB x0 x1 c0 HASC
        obtain ⟨x0, x1, _⟩ := H3.out.1
        go_wp2_with (first | (at_mapUpdate; refine wpList_put _ rfl _ _ _ rfl HM3.out (k := d) (by omega) (by omega) HNW.out rfl rfl rfl ?_; intro w4 hmap hg4) | (at_lookup; refine wpList_lookNew _ rfl _ _ rfl hmap (by omega) rfl rfl ?_))
        have hbm : ∀ (k : Nat) (cur : Array Value) (T : TypeId), w3.heap[k]? = some (.cells cur T (0, 0)) → w4.heap[k]? = w3.heap[k]? := fun k cur T hc => hg4.block k (lt_of_block hc) (fun e => HM3.out.far hc (by injection e with e; exact e.symm))
        have H4 := Lib.hid (H3.out.stepB (B := w.heap.size + 1) ⟨Nat.lt_succ_self _, Nat.lt_succ_self _, trivial⟩ ((Below.refl _ _).grown hg4 (by omega) (fun k e => by injection e with e; omega)) (Nat.le_succ _))
        have HB4 := Lib.hid (show w4.rowIs (w.heap.size + 1 + 1) 4 N _ from by obtain ⟨cc, h1, h2⟩ := HB3.out; exact HB3.out.of_block (hbm _ _ _ h1))
        have HR4 := Lib.hid (HR3.out.keep fun k cur hc => hbm k cur _ hc)
        have HO4 := Lib.hid (HO3.out.keep fun k e => by obtain ⟨cur, hc⟩ := HO3.out.typed e; exact hbm k cur _ hc)
        have HM4 := Lib.hid hmap
        clear hmap hg4 hbm H3 HM3 HB3 HR3 HO3 x0 x1
        go_loopw [32] (fun i wq => ∃ m : Nat, m ≤ r.length ∧ i = .int .i64 m ∧ MapIs wq (w.heap.size + 1) (d + 1) (Kd ++ [d]) (us ++ [.slice (some ⟨g2, 0, none⟩) r.length c3]) ∧ RowsOf wq w.heap.size (us ++ [.slice (some ⟨g2, 0, none⟩) r.length c3]) (Fd ++ [r]) ∧ Ints wq w.heap.size (.slice (some ⟨g2, 0, none⟩) r.length c3) r ∧ wq.rowIs (w.heap.size + 1 + 1) 4 N (fun q => .bool (seenB Fd (q : Int) || (r.take m).contains (q : Int))) ∧ Held w wq [(w.heap.size, 0, .slice A ns.length c), (w.heap.size, 1, .slice A2 ls.length c2)]) (fun i _ => r.length - (intOf i).toNat)
        case atStart => exact ⟨0, Nat.zero_le _, rfl, HM4.out, HR4.out, HO4.out, HB4.out.congr (fun q _ => by simp), H4.out⟩
        case round =>
          clear H4 HM4 HB4 HR4 HO4
          obtain ⟨m, hm, rfl, hmp, hf, ho, hrow, hh⟩ := hrel
          have HM := Lib.hid hmp; clear hmp
          have HF := Lib.hid hf; clear hf
          have HO := Lib.hid ho; clear ho
          have HB := Lib.hid hrow; clear hrow
          have H1 := Lib.hid hh; clear hh
          by_cases hmr : m < r.length
          · obtain ⟨k0, -, hg, -, -⟩ := HO.out.at_ hmr
            obtain ⟨q, hq, hqN⟩ := HD.out m hmr
            rw [hq] at k0
            have HTK := Lib.hid (fun x => take_has hmr x)
            rw [hq] at HTK
            clear hq
            have b0 := HB.out.frozen q
            have b1 := HB.out.cell hqN
            have p1 : (0 : Int) ≤ m := by omega
            have p2 : (m : Int) < (r.length : Int) := by omega
            have p3 : (0 : Int) ≤ q := by omega
            have p4 : (q : Int) < (N : Int) := by omega
            have HF4 := Lib.hid (HF.out.setFarB (j := q) (x := .bool true) HB.out)
            have HO4 := Lib.hid (HO.out.setFarB (j := q) (x := .bool true) HB.out)
            have HM4 := Lib.hid (HM.out.setFar (g := w.heap.size + 1 + 1) (j := q) (by omega) (.bool true))
            have HB4 := Lib.hid (HB.out.set q (.bool true))
            have H4 := Lib.hid (H1.out.setB (g := w.heap.size + 1 + 1) (j := q) (x := .bool true) (B := w.heap.size + 1) ⟨Nat.lt_succ_self _, Nat.lt_succ_self _, trivial⟩ (by omega) (Nat.le_succ _))
            go_wp2_with fail
            exact ⟨⟨m + 1, by omega, by go_num, HM4.out, HF4.out, HO4.out, HB4.out.congr (fun x hx => by
              rw [HTK.out]
              by_cases e : x = q
              · subst e; simp
              · rw [if_neg e]
                have : ((x : Int) == (q : Int)) = false := by rw [beq_eq_false_iff_ne]; omega
                rw [this, Bool.or_false]), H4.out⟩, by simp [intOf]; omega⟩
          · obtain rfl : m = r.length := by omega
            go_wp2_with fail
            exact ⟨⟨d + 1, _, by omega, by go_num, by rw [HS3.out]; exact HM.out, by rw [HS.out]; exact HF.out, by rw [HS.out]; exact HB.out.congr (fun x hx => by rw [seenB_app, List.take_length]), H1.out⟩, by simp [intOf]; omega⟩
    · obtain rfl : d = N := by omega
      go_wp2_with fail
      go_ret
      exact ⟨_, us, rfl, HM.out.mono hN40, Nat.le_succ _, HF.out, H1.out.below⟩
end Go.Proofs.YtnonebfdognlmaaGreat
