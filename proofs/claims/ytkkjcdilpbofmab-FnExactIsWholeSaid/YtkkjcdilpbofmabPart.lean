/-
  The nodes joined with a node: the program's list, the model's labels.
-/
import Derived.Test.YtkkjcdilpbofmabPartP
import Derived.Test.YtkkjcdilpbofmabSortI
import Derived.Test.YtkkjcdilpbofmabDetV
import Derived.Test.YtkkjcdilpbofmabImplLead
import Derived.Test.YtkkjcdilpbofmabWinI
namespace Go.Proofs.Ytkkjcdilpbofmab
open Go.RowKit
set_option linter.unusedVariables false
set_option linter.unusedSimpArgs false

set_option maxRecDepth 100000 in
set_option maxHeartbeats 4000000 in
theorem implPart (ns ls : List Nd) (vn vl : Value) (q : Nat) (w : World) (hn : Prs w vn ns) (hl : Prs w vl ls) (hw : winB ns ls = true) (hq : q < ns.length) :
    Calls Try.prog 77 #[.agg #[vn, vl], .int .i64 q] w (IntsNew (partL ns ls q) w) := by
  have HN := Lib.hid hn
  have HL := Lib.hid hl
  obtain ⟨A, c, rfl⟩ := prs_form2 hn
  obtain ⟨A2, c2, rfl⟩ := prs_form2 hl
  clear hn hl
  obtain ⟨i0, hi, hz0, hz1, hz2⟩ := info_parts infoInt
  have HI := Lib.hid (And.intro hi (And.intro hz0 (And.intro hz1 hz2))); clear hi hz0 hz1 hz2
  have h12 := ((winB_iff ns ls).1 hw).1.1.2
  have h20 := ((winB_iff ns ls).1 hw).1.2
  have H0 := Lib.hid (held_pair w (.slice A ns.length c) (.slice A2 ls.length c2) 70)
  have HO0 := Lib.hid (show Ints ((w.alloc (.cells #[.slice A ns.length c, .slice A2 ls.length c2] 70)).alloc (.cells #[.int .i64 q] 3)) (w.heap.size + 1) (.slice (some ⟨w.heap.size + 1, 0, none⟩) 1 1) [(q : Int)] from by
    have := World.ownsRow_lit (w := w.alloc (.cells #[.slice A ns.length c, .slice A2 ls.length c2] 70)) (base := w.heap.size + 1) (e := 3) (size := 1) #[.int .i64 (q : Int)] 1 (by simp) (by unfold maxLen; omega) rfl
    rw [show (w.alloc (.cells #[.slice A ns.length c, .slice A2 ls.length c2] 70)).heap.size = w.heap.size + 1 by simp] at this
    exact this)
  have HWAY := Lib.hid (Way.start (ls := ls) hq)
  have HW := Lib.hid hw; clear hw
  go_enter Try.func77, Try.ntmps77
  go_wp2_with fail
  go_loopw [5, 6] (fun v i wr => ∃ (S : List Int) (m : Nat), m ≤ S.length ∧ i = .int .i64 m ∧ Way ns ls q S m ∧ Ints wr (w.heap.size + 1) v S ∧ Held w wr [(w.heap.size, 0, .slice A ns.length c), (w.heap.size, 1, .slice A2 ls.length c2)]) (fun _ i _ => ns.length - (intOf i).toNat)
  case atStart => exact ⟨[(q : Int)], 0, Nat.zero_le _, rfl, HWAY.out, HO0.out, H0.out.alloc _⟩
  case round =>
    clear H0 HO0 HWAY
    obtain ⟨S, m, hm, rfl, hway, hown, hh⟩ := hrel
    have HOWN := Lib.hid hown; clear hown
    have HWAY := Lib.hid hway; clear hway
    have H1 := Lib.hid hh; clear hh
    have hlen := HWAY.out.len
    obtain ⟨x0, x1, _⟩ := H1.out.1
    by_cases hlt : m < S.length
    · obtain ⟨g, cp, rfl⟩ := HOWN.out.some_ (by omega)
      have hz1 : (m : Int) < (S.length : Int) := by omega
      have hz2 : (0 : Int) ≤ m := by omega
      have HX := Lib.hid (show ∃ p : Nat, atZ S m = p ∧ p < ns.length ∧ lab ls ls.length p = lab ls ls.length q from HWAY.out.node _ (by rw [← atZ_get hlt]; exact List.getElem_mem hlt))
      obtain ⟨p, hxp, hpn, hlp⟩ := HX.out
      clear HX
      have HSEQ := Lib.hid HL.out
      go_wp2_with fail
      go_loopw [5, 21] (fun v i wr => ∃ (S' : List Int) (j : Nat), j ≤ ls.length ∧ i = .int .i64 j ∧ m < S'.length ∧ atZ S' m = p ∧ Way ns ls q S' m ∧ Closed ls S' p j ∧ Ints wr (w.heap.size + 1) v S' ∧ Held w wr [(w.heap.size, 0, .slice A ns.length c), (w.heap.size, 1, .slice A2 ls.length c2)]) (fun _ i _ => ls.length - (intOf i).toNat)
      case atStart => exact ⟨S, 0, Nat.zero_le _, rfl, hlt, hxp, HWAY.out, fun j hj => by omega, HOWN.out, H1.out⟩
      case round =>
        clear HWAY HOWN H1 x0 x1 hxp hm hlt hlen hz1
        obtain ⟨S', j, hj, rfl, hms, hxp, hway, hcl, hown, hh⟩ := hrel
        have HOWN := Lib.hid hown; clear hown
        have HWAY := Lib.hid hway; clear hway
        have HCL := Lib.hid hcl; clear hcl
        have H1 := Lib.hid hh; clear hh
        have hlen := HWAY.out.len
        obtain ⟨x0, x1, _⟩ := H1.out.1
        by_cases hjl : j < ls.length
        · obtain ⟨b2, o2, c3, he, hbl2, hcs2⟩ := prs_at2 (HL.out.step H1.out.below) hjl
          injection he with he1 he2 he3
          subst he1
          clear he2 he3
          obtain ⟨g, cp, rfl⟩ := HOWN.out.some_ (by omega)
          obtain ⟨l0, l1⟩ := hcs2 j hjl
          clear hcs2
          have HXO := Lib.hid (fun w => implOther (atN ls j) (p : Int) w)
          have HOL := Lib.hid (fun h0 => other_lab (p := p) HW.out hjl h0)
          have HCN := Lib.hid (fun (S : List Int) (h : Closed ls S p j) (h2 : 0 ≤ otherI (atN ls j) p → otherI (atN ls j) p ∈ S) => (show Closed ls S p (j + 1) from fun j' hj' => by
            by_cases e : j' = j
            · subst e; exact h2
            · exact h j' (by omega)))
          have hzj1 : (j : Int) < (ls.length : Int) := by omega
          have hzj2 : (0 : Int) ≤ j := by omega
          have hzm1 : (m : Int) < (S'.length : Int) := by omega
          generalize otherI (atN ls j) p = o at *
          generalize atN ls j = l at *
          obtain ⟨lx, ly⟩ := l
          unfold Nd.val at HXO
          simp only at l0 l1 HXO
          obtain ⟨c0, f0, hgl, hgB, -⟩ := HOWN.out.at_ hms
          rw [hxp] at c0
          have H2 := Lib.hid ((held_plus H1.out (gs := [(g, m, .int .i64 (p : Int))]) ⟨c0, trivial⟩ ⟨hgl, trivial⟩).new2 wr.heap.size rfl [.int .i64 lx, .int .i64 ly] 39)
          have HO2 := Lib.hid (HOWN.out.step ((Below.refl _ _).alloc (Nat.le_refl _) (.cells #[.int .i64 lx, .int .i64 ly] 39)))
          clear f0 c0
          by_cases ho : 0 ≤ o
          · obtain ⟨r, rfl, hrn, hrl, -⟩ := HOL.out ho
            have HR := Lib.hid (show r < ns.length ∧ lab ls ls.length r = lab ls ls.length q from ⟨hrn, hrl.trans hlp⟩)
            clear HOL hrn hrl
            go_wp2_with fail
            clear x0 x1
            refine regionW (fun W => (Held _ W [(wr.heap.size, 0, .int .i64 (lx)), (wr.heap.size, 1, .int .i64 (ly)), (w.heap.size, 0, .slice A ns.length c), (w.heap.size, 1, .slice (some ⟨b2, o2, none⟩) ls.length c2), (g, m, .int .i64 (p))]) ∧ Ints W (w.heap.size + 1) (.slice (some ⟨g, 0, none⟩) S'.length cp) S') (by kernel_rfl) ⟨H2.out.drew, (HO2.out).step ((Below.refl _ _).drew)⟩ ?_
            refine takeW (i := 0) (v := ?_) (Stable.and (Stable.held _ _) (stable_ints (w.heap.size + 1) (.slice (some ⟨g, 0, none⟩) S'.length cp) S')) rfl (by kernel_rfl) (by kernel_rfl) (by kernel_rfl) (fun _ _ _ h => h) ?_ ?_
            rotate_left
            · first | (refine Or.inl ⟨by rfl, fun W hS => detR_value (w' := W) ?_ (Below.refl _ _)⟩; obtain ⟨hH, q1⟩ := hS; obtain ⟨x0, x1, x2, x3, x4, _⟩ := hH.1; go_simp; first | done | with_reducible rfl) | fail
            simp only [Act.put, List.setIfInBounds_toArray, List.set_cons_zero, List.set_cons_succ]
            refine takeW (i := 1) (v := ?_) (Stable.and (Stable.held _ _) (stable_ints (w.heap.size + 1) (.slice (some ⟨g, 0, none⟩) S'.length cp) S')) rfl (by kernel_rfl) (by kernel_rfl) (by kernel_rfl) (fun _ _ _ h => h) ?_ ?_
            rotate_left
            · first | (refine Or.inl ⟨by rfl, fun W hS => detR_value (w' := W) ?_ (Below.refl _ _)⟩; obtain ⟨hH, q1⟩ := hS; obtain ⟨x0, x1, x2, x3, x4, _⟩ := hH.1; go_simp; first | done | with_reducible rfl) | fail
            simp only [Act.put, List.setIfInBounds_toArray, List.set_cons_zero, List.set_cons_succ]
            refine takeW (i := 2) (v := ?_) (Stable.and (Stable.held _ _) (stable_ints (w.heap.size + 1) (.slice (some ⟨g, 0, none⟩) S'.length cp) S')) rfl (by kernel_rfl) (by kernel_rfl) (by kernel_rfl) (fun _ _ _ h => h) ?_ ?_
            rotate_left
            · first | (refine Or.inl ⟨by rfl, fun W hS => detR_value (w' := W) ?_ (Below.refl _ _)⟩; obtain ⟨hH, q1⟩ := hS; obtain ⟨x0, x1, x2, x3, x4, _⟩ := hH.1; go_simp; first | done | with_reducible rfl) | fail
            simp only [Act.put, List.setIfInBounds_toArray, List.set_cons_zero, List.set_cons_succ]
            refine takeW (i := 3) (v := ?_) (Stable.and (Stable.held _ _) (stable_ints (w.heap.size + 1) (.slice (some ⟨g, 0, none⟩) S'.length cp) S')) rfl (by kernel_rfl) (by kernel_rfl) (by kernel_rfl) (fun _ _ _ h => h) ?_ ?_
            rotate_left
            · first | (refine Or.inl ⟨by rfl, fun W hS => detR_value (w' := W) ?_ (Below.refl _ _)⟩; obtain ⟨hH, q1⟩ := hS; obtain ⟨x0, x1, x2, x3, x4, _⟩ := hH.1; go_simp; first | done | with_reducible rfl) | fail
            simp only [Act.put, List.setIfInBounds_toArray, List.set_cons_zero, List.set_cons_succ]
            refine takeW (i := 4) (v := ?_) (Stable.and (Stable.held _ _) (stable_ints (w.heap.size + 1) (.slice (some ⟨g, 0, none⟩) S'.length cp) S')) rfl (by kernel_rfl) (by kernel_rfl) (by kernel_rfl) (fun _ _ _ h => h) ?_ ?_
            rotate_left
            · first | (refine Or.inl ⟨by rfl, fun W hS => detR_value (w' := W) ?_ (Below.refl _ _)⟩; obtain ⟨hH, q1⟩ := hS; obtain ⟨x0, x1, x2, x3, x4, _⟩ := hH.1; go_simp; first | done | with_reducible rfl) | fail
            simp only [Act.put, List.setIfInBounds_toArray, List.set_cons_zero, List.set_cons_succ]
            refine takeW (i := 5) (v := ?_) (Stable.and (Stable.held _ _) (stable_ints (w.heap.size + 1) (.slice (some ⟨g, 0, none⟩) S'.length cp) S')) rfl (by kernel_rfl) (by kernel_rfl) (by kernel_rfl) (fun _ _ _ h => h) ?_ ?_
            rotate_left
            · first | (refine Or.inl ⟨by rfl, fun W hS => ?_⟩; obtain ⟨hH, q1⟩ := hS; refine detR_call (w' := W) (f := ?_) (args := ?_) ?_ ?_; rotate_left 2; (go_simp; (refine ⟨?_, ?_⟩ <;> with_reducible rfl)); (first | (with_reducible refine (HXO.out _).mono ?_) | fail); (first | (rintro e wn ⟨rfl, hb⟩; refine ⟨?_, hb⟩; with_reducible rfl) | (rintro e wn ⟨rfl, rfl⟩; refine ⟨?_, Below.refl _ _⟩; with_reducible rfl) | fail)) | fail
            simp only [Act.put, List.setIfInBounds_toArray, List.set_cons_zero, List.set_cons_succ]
            refine takeW (i := 6) (v := ?_) (Stable.and (Stable.held _ _) (stable_ints (w.heap.size + 1) (.slice (some ⟨g, 0, none⟩) S'.length cp) S')) rfl (by kernel_rfl) (by kernel_rfl) (by kernel_rfl) (fun _ _ _ h => h) ?_ ?_
            rotate_left
            · first | (refine Or.inl ⟨by rfl, fun W hS => detR_value (w' := W) ?_ (Below.refl _ _)⟩; obtain ⟨hH, q1⟩ := hS; obtain ⟨x0, x1, x2, x3, x4, _⟩ := hH.1; go_simp; first | done | with_reducible rfl) | fail
            simp only [Act.put, List.setIfInBounds_toArray, List.set_cons_zero, List.set_cons_succ]
            refine doneW (by kernel_rfl) fun wH3 HG => ?_
            obtain ⟨hH, q1⟩ := HG
            have H3 := Lib.hid hH; clear hH
            have MH3_q1 := Lib.hid q1; clear q1
            try clear x0 x1 x2 x3 x4
            obtain ⟨x0, x1, x2, x3, x4, _⟩ := H3.out.1
            go_wp2_with fail
            have H4 := Lib.hid (H3.out.only (gs := [(w.heap.size, 0, .slice A ns.length c), (w.heap.size, 1, .slice (some ⟨b2, o2, none⟩) ls.length c2)]) (fun ⟨_, _, a, b, _⟩ => ⟨a, b, trivial⟩) (fun ⟨_, _, a, b, _⟩ => ⟨a, b, trivial⟩))
            refine (containsI (r : Int) MH3_q1.out (by omega)).mono ?_
            rintro e w4 ⟨rfl, rfl⟩
            by_cases hct : S'.contains (r : Int) = true
            · rw [hct]
              have HMM := Lib.hid (show (r : Int) ∈ S' from by simpa using hct)
              clear hct
              go_wp2_with fail
              exact ⟨⟨S', j + 1, by omega, by go_num, hms, hxp, HWAY.out, HCN.out S' HCL.out (fun _ => HMM.out), MH3_q1.out, H4.out⟩, by simp [intOf]; omega⟩
            · have HMM := Lib.hid (show (r : Int) ∉ S' from by simpa using hct)
              rw [show S'.contains (r : Int) = false by simpa using hct]
              clear hct
              have hsz1 := H4.out.2.1.1
              obtain ⟨hi, hz0, hz1', hz2'⟩ := HI.out
              go_wp2_with (at_builtin; refine wpList_append_own _ rfl _ _ 30 rfl (w.heap.size + 1) 3 i0 (.int .i64 0) 1 8 Try.underlying30 hi hz0 hz1' hz2' rfl (by decide) _ _ _ rfl (World.ownsRow.alloc MH3_q1.out _) ⟨w4.heap.size, 0, none⟩ 1 1 [.int .i64 r] rfl rfl ?c1 ?c2 ?c3 ?c4 ?c5 ?_)
              case c1 => exact cell_one_new _ _ _
              case c2 => simp [Value.oneCell']
              case c3 => unfold maxLen; omega
              case c4 => omega
              case c5 => simp; omega
              intro v' w5 hown hgrow _
              have H5 := Lib.hid (H4.out.stepB (B := w.heap.size + 1) ⟨Nat.lt_succ_self _, Nat.lt_succ_self _, trivial⟩ (grown_below MH3_q1.out hsz1 hgrow) (Nat.le_succ _))
              have HO5 := Lib.hid (Ints.more hown); clear hown hgrow
              go_wp2_with fail
              exact ⟨⟨S' ++ [(r : Int)], j + 1, by omega, by go_num, by simp; omega, by rw [atZ_more hms]; exact hxp, HWAY.out.put (by omega) HMM.out ⟨r, rfl, HR.out.1, HR.out.2⟩, HCN.out _ (HCL.out.more _) (fun _ => by simp), HO5.out, H5.out⟩, by simp [intOf]; omega⟩
          · go_wp2_with fail
            clear x0 x1
            refine regionW (fun W => (Held _ W [(wr.heap.size, 0, .int .i64 (lx)), (wr.heap.size, 1, .int .i64 (ly)), (w.heap.size, 0, .slice A ns.length c), (w.heap.size, 1, .slice (some ⟨b2, o2, none⟩) ls.length c2), (g, m, .int .i64 (p))]) ∧ Ints W (w.heap.size + 1) (.slice (some ⟨g, 0, none⟩) S'.length cp) S') (by kernel_rfl) ⟨H2.out.drew, (HO2.out).step ((Below.refl _ _).drew)⟩ ?_
            refine takeW (i := 0) (v := ?_) (Stable.and (Stable.held _ _) (stable_ints (w.heap.size + 1) (.slice (some ⟨g, 0, none⟩) S'.length cp) S')) rfl (by kernel_rfl) (by kernel_rfl) (by kernel_rfl) (fun _ _ _ h => h) ?_ ?_
            rotate_left
            · first | (refine Or.inl ⟨by rfl, fun W hS => detR_value (w' := W) ?_ (Below.refl _ _)⟩; obtain ⟨hH, q1⟩ := hS; obtain ⟨x0, x1, x2, x3, x4, _⟩ := hH.1; go_simp; first | done | with_reducible rfl) | fail
            simp only [Act.put, List.setIfInBounds_toArray, List.set_cons_zero, List.set_cons_succ]
            refine takeW (i := 1) (v := ?_) (Stable.and (Stable.held _ _) (stable_ints (w.heap.size + 1) (.slice (some ⟨g, 0, none⟩) S'.length cp) S')) rfl (by kernel_rfl) (by kernel_rfl) (by kernel_rfl) (fun _ _ _ h => h) ?_ ?_
            rotate_left
            · first | (refine Or.inl ⟨by rfl, fun W hS => detR_value (w' := W) ?_ (Below.refl _ _)⟩; obtain ⟨hH, q1⟩ := hS; obtain ⟨x0, x1, x2, x3, x4, _⟩ := hH.1; go_simp; first | done | with_reducible rfl) | fail
            simp only [Act.put, List.setIfInBounds_toArray, List.set_cons_zero, List.set_cons_succ]
            refine takeW (i := 2) (v := ?_) (Stable.and (Stable.held _ _) (stable_ints (w.heap.size + 1) (.slice (some ⟨g, 0, none⟩) S'.length cp) S')) rfl (by kernel_rfl) (by kernel_rfl) (by kernel_rfl) (fun _ _ _ h => h) ?_ ?_
            rotate_left
            · first | (refine Or.inl ⟨by rfl, fun W hS => detR_value (w' := W) ?_ (Below.refl _ _)⟩; obtain ⟨hH, q1⟩ := hS; obtain ⟨x0, x1, x2, x3, x4, _⟩ := hH.1; go_simp; first | done | with_reducible rfl) | fail
            simp only [Act.put, List.setIfInBounds_toArray, List.set_cons_zero, List.set_cons_succ]
            refine takeW (i := 3) (v := ?_) (Stable.and (Stable.held _ _) (stable_ints (w.heap.size + 1) (.slice (some ⟨g, 0, none⟩) S'.length cp) S')) rfl (by kernel_rfl) (by kernel_rfl) (by kernel_rfl) (fun _ _ _ h => h) ?_ ?_
            rotate_left
            · first | (refine Or.inl ⟨by rfl, fun W hS => detR_value (w' := W) ?_ (Below.refl _ _)⟩; obtain ⟨hH, q1⟩ := hS; obtain ⟨x0, x1, x2, x3, x4, _⟩ := hH.1; go_simp; first | done | with_reducible rfl) | fail
            simp only [Act.put, List.setIfInBounds_toArray, List.set_cons_zero, List.set_cons_succ]
            refine takeW (i := 4) (v := ?_) (Stable.and (Stable.held _ _) (stable_ints (w.heap.size + 1) (.slice (some ⟨g, 0, none⟩) S'.length cp) S')) rfl (by kernel_rfl) (by kernel_rfl) (by kernel_rfl) (fun _ _ _ h => h) ?_ ?_
            rotate_left
            · first | (refine Or.inl ⟨by rfl, fun W hS => detR_value (w' := W) ?_ (Below.refl _ _)⟩; obtain ⟨hH, q1⟩ := hS; obtain ⟨x0, x1, x2, x3, x4, _⟩ := hH.1; go_simp; first | done | with_reducible rfl) | fail
            simp only [Act.put, List.setIfInBounds_toArray, List.set_cons_zero, List.set_cons_succ]
            refine takeW (i := 5) (v := ?_) (Stable.and (Stable.held _ _) (stable_ints (w.heap.size + 1) (.slice (some ⟨g, 0, none⟩) S'.length cp) S')) rfl (by kernel_rfl) (by kernel_rfl) (by kernel_rfl) (fun _ _ _ h => h) ?_ ?_
            rotate_left
            · first | (refine Or.inl ⟨by rfl, fun W hS => ?_⟩; obtain ⟨hH, q1⟩ := hS; refine detR_call (w' := W) (f := ?_) (args := ?_) ?_ ?_; rotate_left 2; (go_simp; (refine ⟨?_, ?_⟩ <;> with_reducible rfl)); (first | (with_reducible refine (HXO.out _).mono ?_) | fail); (first | (rintro e wn ⟨rfl, hb⟩; refine ⟨?_, hb⟩; with_reducible rfl) | (rintro e wn ⟨rfl, rfl⟩; refine ⟨?_, Below.refl _ _⟩; with_reducible rfl) | fail)) | fail
            simp only [Act.put, List.setIfInBounds_toArray, List.set_cons_zero, List.set_cons_succ]
            refine takeW (i := 6) (v := ?_) (Stable.and (Stable.held _ _) (stable_ints (w.heap.size + 1) (.slice (some ⟨g, 0, none⟩) S'.length cp) S')) rfl (by kernel_rfl) (by kernel_rfl) (by kernel_rfl) (fun _ _ _ h => h) ?_ ?_
            rotate_left
            · first | (refine Or.inl ⟨by rfl, fun W hS => detR_value (w' := W) ?_ (Below.refl _ _)⟩; obtain ⟨hH, q1⟩ := hS; obtain ⟨x0, x1, x2, x3, x4, _⟩ := hH.1; go_simp; first | done | with_reducible rfl) | fail
            simp only [Act.put, List.setIfInBounds_toArray, List.set_cons_zero, List.set_cons_succ]
            refine doneW (by kernel_rfl) fun wH3 HG => ?_
            obtain ⟨hH, q1⟩ := HG
            have H3 := Lib.hid hH; clear hH
            have MH3_q1 := Lib.hid q1; clear q1
            try clear x0 x1 x2 x3 x4
            obtain ⟨x0, x1, x2, x3, x4, _⟩ := H3.out.1
            go_wp2_with fail
            have H4 := Lib.hid (H3.out.only (gs := [(w.heap.size, 0, .slice A ns.length c), (w.heap.size, 1, .slice (some ⟨b2, o2, none⟩) ls.length c2)]) (fun ⟨_, _, a, b, _⟩ => ⟨a, b, trivial⟩) (fun ⟨_, _, a, b, _⟩ => ⟨a, b, trivial⟩))
            exact ⟨⟨S', j + 1, by omega, by go_num, hms, hxp, HWAY.out, HCN.out S' HCL.out (fun h => absurd h (Int.not_le.2 ho)), MH3_q1.out, H4.out⟩, by simp [intOf]; omega⟩
        · obtain rfl : j = ls.length := by omega
          have HNX := Lib.hid (HWAY.out.next (by rw [hxp]; exact HCL.out))
          go_wp2_with fail
          exact ⟨⟨S', m + 1, hms, by go_num, HNX.out, HOWN.out, H1.out⟩, by simp [intOf]; omega⟩
    · obtain rfl : m = S.length := by omega
      obtain ⟨g, cp, rfl⟩ := HOWN.out.some_ (by have := List.length_pos_of_mem HWAY.out.mem; omega)
      have HS := Lib.hid (HWAY.out.sorted HW.out)
      have hsz := H1.out.2.1.1
      have HSO := Lib.hid (sortInts HOWN.out (by omega) (by omega))
      go_wp2_with fail
      refine (HSO.out).mono ?_
      rintro e w2 ⟨rfl, hi, hb⟩
      rw [HS.out] at hi
      have HI2 := Lib.hid hi
      have HB2 := Lib.hid (H1.out.below.trans (hb.mono (Nat.le_succ _)))
      have hl : (partL ns ls q).length = S.length := by rw [← HS.out]; exact List.length_mergeSort _
      clear hi hb
      go_wp2_with fail
      go_ret
      exact ⟨_, rfl, HI2.out.mono (by omega), HB2.out⟩
end Go.Proofs.Ytkkjcdilpbofmab
