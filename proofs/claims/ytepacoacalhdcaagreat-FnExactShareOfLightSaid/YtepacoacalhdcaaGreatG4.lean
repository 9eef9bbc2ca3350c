/-
  Several texts in one: a claim has at most 60 files.
-/
import Derived.Test.YtepacoacalhdcaaGreatG2
import Derived.Test.YtepacoacalhdcaaGreatG3
import Derived.Test.YtepacoacalhdcaaGreatG39
import Derived.Test.YtepacoacalhdcaaGreatG25
import Derived.Test.YtepacoacalhdcaaGreatLab
import Derived.Test.YtepacoacalhdcaaGreatG1

namespace Go.Proofs.YtepacoacalhdcaaGreat
open Go.RowKit
set_option linter.unusedVariables false
set_option linter.unusedSimpArgs false

set_option maxRecDepth 100000 in
set_option maxHeartbeats 4000000 in
theorem implPart (ns ls : List Nd) (vn vl : Value) (q : Nat) (w : World) (hn : Prs w vn ns) (hl : Prs w vl ls) (hw : winB ns ls = true) (hq : q < ns.length) :
    Calls Tryz.prog 173 #[.agg #[vn, vl], .int .i64 q] w (IntsNew (partL ns ls q) w) := by
  have HN := Lib.hid hn
  have HL := Lib.hid hl
  obtain ⟨A, c, rfl⟩ := prs_form2 hn
  obtain ⟨A2, c2, rfl⟩ := prs_form2 hl
  clear hn hl
  obtain ⟨i0, hi, hz0, hz1, hz2⟩ := info_parts infoInt
  have HI := Lib.hid (And.intro hi (And.intro hz0 (And.intro hz1 hz2))); clear hi hz0 hz1 hz2
  have h12 := ((winB_iff ns ls).1 hw).1.1.2
  have h20 := ((winB_iff ns ls).1 hw).1.2
  have H0 := Lib.hid (held_pair w (.slice A ns.length c) (.slice A2 ls.length c2) 96)
  have HO0 := Lib.hid (show Ints ((w.alloc (.cells #[.slice A ns.length c, .slice A2 ls.length c2] 96)).alloc (.cells #[.int .i64 q] 3)) (w.heap.size + 1) (.slice (some ⟨w.heap.size + 1, 0, none⟩) 1 1) [(q : Int)] from by
    have := World.ownsRow_lit (w := w.alloc (.cells #[.slice A ns.length c, .slice A2 ls.length c2] 96)) (base := w.heap.size + 1) (e := 3) (size := 1) #[.int .i64 (q : Int)] 1 (by simp) (by unfold maxLen; omega) rfl
    rw [show (w.alloc (.cells #[.slice A ns.length c, .slice A2 ls.length c2] 96)).heap.size = w.heap.size + 1 by simp] at this
    exact this)
  have HWAY := Lib.hid (Way.start (ls := ls) hq)
  have HW := Lib.hid hw; clear hw
  go_enter Tryz.func173, Tryz.ntmps173
  go_wp2_with fail
  go_loopw [5, 6] (fun v i wr => ∃ (S : List Int) (m : Nat), m ≤ S.length ∧ i = .int .i64 m ∧ Way ns ls q S m ∧ Ints wr (w.heap.size + 1) v S ∧ Held w wr [(w.heap.size, 0, .slice A ns.length c), (w.heap.size, 1, .slice A2 ls.length c2)]) (fun _ i _ => ns.length - (intOf i).toNat)
  case atStart => exact ⟨[(q : Int)], 0, Nat.zero_le _, rfl, HWAY.out, HO0.out, H0.out.alloc _⟩
  case round =>
    clear H0 HO0 HWAY
    obtain ⟨S, m, hm, rfl, hway, hown, hh⟩ := hrel
    have HOWN := Lib.hid hown; clear hown
    have HWAY := Lib.hid hway; clear hway
    have H1 := Lib.hid hh; clear hh
    have hlen := HWAY.out.len
    obtain ⟨x0, x1, _⟩ := H1.out.1
    by_cases hlt : m < S.length
    · obtain ⟨g, cp, rfl⟩ := HOWN.out.some_ (by omega)
      have hz1 : (m : Int) < (S.length : Int) := by omega
      have hz2 : (0 : Int) ≤ m := by omega
      have HX := Lib.hid (show ∃ p : Nat, atZ S m = p ∧ p < ns.length ∧ lab ls ls.length p = lab ls ls.length q from HWAY.out.node _ (by rw [← atZ_get hlt]; exact List.getElem_mem hlt))
      obtain ⟨p, hxp, hpn, hlp⟩ := HX.out
      clear HX
      have HSEQ := Lib.hid HL.out
      go_wp2_with fail
      go_loopw [5, 21] (fun v i wr => ∃ (S' : List Int) (j : Nat), j ≤ ls.length ∧ i = .int .i64 j ∧ m < S'.length ∧ atZ S' m = p ∧ Way ns ls q S' m ∧ Closed ls S' p j ∧ Ints wr (w.heap.size + 1) v S' ∧ Held w wr [(w.heap.size, 0, .slice A ns.length c), (w.heap.size, 1, .slice A2 ls.length c2)]) (fun _ i _ => ls.length - (intOf i).toNat)
      case atStart => exact ⟨S, 0, Nat.zero_le _, rfl, hlt, hxp, HWAY.out, fun j hj => by omega, HOWN.out, H1.out⟩
      case round =>
        clear HWAY HOWN H1 x0 x1 hxp hm hlt hlen hz1
        obtain ⟨S', j, hj, rfl, hms, hxp, hway, hcl, hown, hh⟩ := hrel
        have HOWN := Lib.hid hown; clear hown
        have HWAY := Lib.hid hway; clear hway
        have HCL := Lib.hid hcl; clear hcl
        have H1 := Lib.hid hh; clear hh
        have hlen := HWAY.out.len
        obtain ⟨x0, x1, _⟩ := H1.out.1
        by_cases hjl : j < ls.length
        · obtain ⟨b2, o2, c3, he, hbl2, hcs2⟩ := prs_at2 (HL.out.step H1.out.below) hjl
          injection he with he1 he2 he3
          subst he1
          clear he2 he3
          obtain ⟨g, cp, rfl⟩ := HOWN.out.some_ (by omega)
          obtain ⟨l0, l1⟩ := hcs2 j hjl
          clear hcs2
          have HXO := Lib.hid (fun w => implOther (atN ls j) (p : Int) w)
          have HOL := Lib.hid (fun h0 => other_lab (p := p) HW.out hjl h0)
          have HCN := Lib.hid (fun (S : List Int) (h : Closed ls S p j) (h2 : 0 ≤ otherI (atN ls j) p → otherI (atN ls j) p ∈ S) => (show Closed ls S p (j + 1) from fun j' hj' => by
            by_cases e : j' = j
            · subst e; exact h2
            · exact h j' (by omega)))
          have hzj1 : (j : Int) < (ls.length : Int) := by omega
          have hzj2 : (0 : Int) ≤ j := by omega
          have hzm1 : (m : Int) < (S'.length : Int) := by omega
          generalize otherI (atN ls j) p = o at *
          generalize atN ls j = l at *
          obtain ⟨lx, ly⟩ := l
          unfold Nd.val at HXO
          simp only at l0 l1 HXO
          obtain ⟨c0, f0, hgl, hgB, -⟩ := HOWN.out.at_ hms
          rw [hxp] at c0
          have H2 := Lib.hid ((held_plus H1.out (gs := [(g, m, .int .i64 (p : Int))]) ⟨c0, trivial⟩ ⟨hgl, trivial⟩).new2 wr.heap.size rfl [.int .i64 lx, .int .i64 ly] 151)
          have HO2 := Lib.hid (HOWN.out.step ((Below.refl _ _).alloc (Nat.le_refl _) (.cells #[.int .i64 lx, .int .i64 ly] 151)))
          clear f0 c0
          by_cases ho : 0 ≤ o
          · obtain ⟨r, rfl, hrn, hrl, -⟩ := HOL.out ho
            have HR := Lib.hid (show r < ns.length ∧ lab ls ls.length r = lab ls ls.length q from ⟨hrn, hrl.trans hlp⟩)
            clear HOL hrn hrl
            go_wp2_with fail
            clear x0 x1
            refine regionW (fun W => (Held _ W [(wr.heap.size, 0, .int .i64 (lx)), (wr.heap.size, 1, .int .i64 (ly)), (w.heap.size, 0, .slice A ns.length c), (w.heap.size, 1, .slice (some ⟨b2, o2, none⟩) ls.length c2), (g, m, .int .i64 (p))]) ∧ Ints W (w.heap.size + 1) (.slice (some ⟨g, 0, none⟩) S'.length cp) S') (by kernel_rfl) ⟨H2.out.drew, (HO2.out).step ((Below.refl _ _).drew)⟩ ?_
            refine takeW (i := 0) (v := ?_) (Stable.and (Stable.held _ _) (stable_ints (w.heap.size + 1) (.slice (some ⟨g, 0, none⟩) S'.length cp) S')) rfl (by kernel_rfl) (by kernel_rfl) (by kernel_rfl) (fun _ _ _ h => h) ?_ ?_
            rotate_left
            · first | (refine Or.inl ⟨by rfl, fun W hS => detR_value (w' := W) ?_ (Below.refl _ _)⟩; obtain ⟨hH, q1⟩ := hS; obtain ⟨x0, x1, x2, x3, x4, _⟩ := hH.1; go_simp; first | done | with_reducible rfl) | fail
            simp only [Act.put, List.setIfInBounds_toArray, List.set_cons_zero, List.set_cons_succ]
            refine takeW (i := 1) (v := ?_) (Stable.and (Stable.held _ _) (stable_ints (w.heap.size + 1) (.slice (some ⟨g, 0, none⟩) S'.length cp) S')) rfl (by kernel_rfl) (by kernel_rfl) (by kernel_rfl) (fun _ _ _ h => h) ?_ ?_
            rotate_left
            · first | (refine Or.inl ⟨by rfl, fun W hS => detR_value (w' := W) ?_ (Below.refl _ _)⟩; obtain ⟨hH, q1⟩ := hS; obtain ⟨x0, x1, x2, x3, x4, _⟩ := hH.1; go_simp; first | done | with_reducible rfl) | fail
            simp only [Act.put, List.setIfInBounds_toArray, List.set_cons_zero, List.set_cons_succ]
            refine takeW (i := 2) (v := ?_) (Stable.and (Stable.held _ _) (stable_ints (w.heap.size + 1) (.slice (some ⟨g, 0, none⟩) S'.length cp) S')) rfl (by kernel_rfl) (by kernel_rfl) (by kernel_rfl) (fun _ _ _ h => h) ?_ ?_
            rotate_left
            · first | (refine Or.inl ⟨by rfl, fun W hS => detR_value (w' := W) ?_ (Below.refl _ _)⟩; obtain ⟨hH, q1⟩ := hS; obtain ⟨x0, x1, x2, x3, x4, _⟩ := hH.1; go_simp; first | done | with_reducible rfl) | fail
            simp only [Act.put, List.setIfInBounds_toArray, List.set_cons_zero, List.set_cons_succ]
            refine takeW (i := 3) (v := ?_) (Stable.and (Stable.held _ _) (stable_ints (w.heap.size + 1) (.slice (some ⟨g, 0, none⟩) S'.length cp) S')) rfl (by kernel_rfl) (by kernel_rfl) (by kernel_rfl) (fun _ _ _ h => h) ?_ ?_
            rotate_left
            · first | (refine Or.inl ⟨by rfl, fun W hS => detR_value (w' := W) ?_ (Below.refl _ _)⟩; obtain ⟨hH, q1⟩ := hS; obtain ⟨x0, x1, x2, x3, x4, _⟩ := hH.1; go_simp; first | done | with_reducible rfl) | fail
            simp only [Act.put, List.setIfInBounds_toArray, List.set_cons_zero, List.set_cons_succ]
            refine takeW (i := 4) (v := ?_) (Stable.and (Stable.held _ _) (stable_ints (w.heap.size + 1) (.slice (some ⟨g, 0, none⟩) S'.length cp) S')) rfl (by kernel_rfl) (by kernel_rfl) (by kernel_rfl) (fun _ _ _ h => h) ?_ ?_
            rotate_left
            · first | (refine Or.inl ⟨by rfl, fun W hS => detR_value (w' := W) ?_ (Below.refl _ _)⟩; obtain ⟨hH, q1⟩ := hS; obtain ⟨x0, x1, x2, x3, x4, _⟩ := hH.1; go_simp; first | done | with_reducible rfl) | fail
            simp only [Act.put, List.setIfInBounds_toArray, List.set_cons_zero, List.set_cons_succ]
            refine takeW (i := 5) (v := ?_) (Stable.and (Stable.held _ _) (stable_ints (w.heap.size + 1) (.slice (some ⟨g, 0, none⟩) S'.length cp) S')) rfl (by kernel_rfl) (by kernel_rfl) (by kernel_rfl) (fun _ _ _ h => h) ?_ ?_
            rotate_left
            · first | (refine Or.inl ⟨by rfl, fun W hS => ?_⟩; obtain ⟨hH, q1⟩ := hS; refine detR_call (w' := W) (f := ?_) (args := ?_) ?_ ?_; rotate_left 2; (go_simp; (refine ⟨?_, ?_⟩ <;> with_reducible rfl)); (first | (with_reducible refine (HXO.out _).mono ?_) | fail); (first | (rintro e wn ⟨rfl, hb⟩; refine ⟨?_, hb⟩; with_reducible rfl) | (rintro e wn ⟨rfl, rfl⟩; refine ⟨?_, Below.refl _ _⟩; with_reducible rfl) | fail)) | fail
            simp only [Act.put, List.setIfInBounds_toArray, List.set_cons_zero, List.set_cons_succ]
            refine takeW (i := 6) (v := ?_) (Stable.and (Stable.held _ _) (stable_ints (w.heap.size + 1) (.slice (some ⟨g, 0, none⟩) S'.length cp) S')) rfl (by kernel_rfl) (by kernel_rfl) (by kernel_rfl) (fun _ _ _ h => h) ?_ ?_
            rotate_left
            · first | (refine Or.inl ⟨by rfl, fun W hS => detR_value (w' := W) ?_ (Below.refl _ _)⟩; obtain ⟨hH, q1⟩ := hS; obtain ⟨x0, x1, x2, x3, x4, _⟩ := hH.1; go_simp; first | done | with_reducible rfl) | fail
            simp only [Act.put, List.setIfInBounds_toArray, List.set_cons_zero, List.set_cons_succ]
            refine doneW (by kernel_rfl) fun wH3 HG => ?_
            obtain ⟨hH, q1⟩ := HG
            have H3 := Lib.hid hH; clear hH
            have MH3_q1 := Lib.hid q1; clear q1
            try clear x0 x1 x2 x3 x4
            obtain ⟨x0, x1, x2, x3, x4, _⟩ := H3.out.1
            go_wp2_with fail
            have H4 := Lib.hid (H3.out.only (gs := [(w.heap.size, 0, .slice A ns.length c), (w.heap.size, 1, .slice (some ⟨b2, o2, none⟩) ls.length c2)]) (fun ⟨_, _, a, b, _⟩ => ⟨a, b, trivial⟩) (fun ⟨_, _, a, b, _⟩ => ⟨a, b, trivial⟩))
            refine (containsI (r : Int) MH3_q1.out (by omega)).mono ?_
            rintro e w4 ⟨rfl, rfl⟩
            by_cases hct : S'.contains (r : Int) = true
            · rw [hct]
              have HMM := Lib.hid (show (r : Int) ∈ S' from by simpa using hct)
              clear hct
              go_wp2_with fail
              exact ⟨⟨S', j + 1, by omega, by go_num, hms, hxp, HWAY.out, HCN.out S' HCL.out (fun _ => HMM.out), MH3_q1.out, H4.out⟩, by simp [intOf]; omega⟩
            · have HMM := Lib.hid (show (r : Int) ∉ S' from by simpa using hct)
              rw [show S'.contains (r : Int) = false by simpa using hct]
              clear hct
              have hsz1 := H4.out.2.1.1
              obtain ⟨hi, hz0, hz1', hz2'⟩ := HI.out
              go_wp2_with (at_builtin; refine wpList_append_own _ rfl _ _ 27 rfl (w.heap.size + 1) 3 i0 (.int .i64 0) 1 8 Tryz.underlying27 hi hz0 hz1' hz2' rfl (by decide) _ _ _ rfl (World.ownsRow.alloc MH3_q1.out _) ⟨w4.heap.size, 0, none⟩ 1 1 [.int .i64 r] rfl rfl ?c1 ?c2 ?c3 ?c4 ?c5 ?_)
              case c1 => exact cell_one_new _ _ _
              case c2 => simp [Value.oneCell']
              case c3 => unfold maxLen; omega
              case c4 => omega
              case c5 => simp; omega
              intro v' w5 hown hgrow _
              have H5 := Lib.hid (H4.out.stepB (B := w.heap.size + 1) ⟨Nat.lt_succ_self _, Nat.lt_succ_self _, trivial⟩ (grown_below MH3_q1.out hsz1 hgrow) (Nat.le_succ _))
              have HO5 := Lib.hid (Ints.more hown); clear hown hgrow
              go_wp2_with fail
              exact ⟨⟨S' ++ [(r : Int)], j + 1, by omega, by go_num, by simp; omega, by rw [atZ_more hms]; exact hxp, HWAY.out.put (by omega) HMM.out ⟨r, rfl, HR.out.1, HR.out.2⟩, HCN.out _ (HCL.out.more _) (fun _ => by simp), HO5.out, H5.out⟩, by simp [intOf]; omega⟩
          · go_wp2_with fail
            clear x0 x1
            refine regionW (fun W => (Held _ W [(wr.heap.size, 0, .int .i64 (lx)), (wr.heap.size, 1, .int .i64 (ly)), (w.heap.size, 0, .slice A ns.length c), (w.heap.size, 1, .slice (some ⟨b2, o2, none⟩) ls.length c2), (g, m, .int .i64 (p))]) ∧ Ints W (w.heap.size + 1) (.slice (some ⟨g, 0, none⟩) S'.length cp) S') (by kernel_rfl) ⟨H2.out.drew, (HO2.out).step ((Below.refl _ _).drew)⟩ ?_
            refine takeW (i := 0) (v := ?_) (Stable.and (Stable.held _ _) (stable_ints (w.heap.size + 1) (.slice (some ⟨g, 0, none⟩) S'.length cp) S')) rfl (by kernel_rfl) (by kernel_rfl) (by kernel_rfl) (fun _ _ _ h => h) ?_ ?_
            rotate_left
            · first | (refine Or.inl ⟨by rfl, fun W hS => detR_value (w' := W) ?_ (Below.refl _ _)⟩; obtain ⟨hH, q1⟩ := hS; obtain ⟨x0, x1, x2, x3, x4, _⟩ := hH.1; go_simp; first | done | with_reducible rfl) | fail
            simp only [Act.put, List.setIfInBounds_toArray, List.set_cons_zero, List.set_cons_succ]
            refine takeW (i := 1) (v := ?_) (Stable.and (Stable.held _ _) (stable_ints (w.heap.size + 1) (.slice (some ⟨g, 0, none⟩) S'.length cp) S')) rfl (by kernel_rfl) (by kernel_rfl) (by kernel_rfl) (fun _ _ _ h => h) ?_ ?_
            rotate_left
            · first | (refine Or.inl ⟨by rfl, fun W hS => detR_value (w' := W) ?_ (Below.refl _ _)⟩; obtain ⟨hH, q1⟩ := hS; obtain ⟨x0, x1, x2, x3, x4, _⟩ := hH.1; go_simp; first | done | with_reducible rfl) | fail
            simp only [Act.put, List.setIfInBounds_toArray, List.set_cons_zero, List.set_cons_succ]
            refine takeW (i := 2) (v := ?_) (Stable.and (Stable.held _ _) (stable_ints (w.heap.size + 1) (.slice (some ⟨g, 0, none⟩) S'.length cp) S')) rfl (by kernel_rfl) (by kernel_rfl) (by kernel_rfl) (fun _ _ _ h => h) ?_ ?_
            rotate_left
            · first | (refine Or.inl ⟨by rfl, fun W hS => detR_value (w' := W) ?_ (Below.refl _ _)⟩; obtain ⟨hH, q1⟩ := hS; obtain ⟨x0, x1, x2, x3, x4, _⟩ := hH.1; go_simp; first | done | with_reducible rfl) | fail
            simp only [Act.put, List.setIfInBounds_toArray, List.set_cons_zero, List.set_cons_succ]
            refine takeW (i := 3) (v := ?_) (Stable.and (Stable.held _ _) (stable_ints (w.heap.size + 1) (.slice (some ⟨g, 0, none⟩) S'.length cp) S')) rfl (by kernel_rfl) (by kernel_rfl) (by kernel_rfl) (fun _ _ _ h => h) ?_ ?_
            rotate_left
            · first | (refine Or.inl ⟨by rfl, fun W hS => detR_value (w' := W) ?_ (Below.refl _ _)⟩; obtain ⟨hH, q1⟩ := hS; obtain ⟨x0, x1, x2, x3, x4, _⟩ := hH.1; go_simp; first | done | with_reducible rfl) | fail
            simp only [Act.put, List.setIfInBounds_toArray, List.set_cons_zero, List.set_cons_succ]
            refine takeW (i := 4) (v := ?_) (Stable.and (Stable.held _ _) (stable_ints (w.heap.size + 1) (.slice (some ⟨g, 0, none⟩) S'.length cp) S')) rfl (by kernel_rfl) (by kernel_rfl) (by kernel_rfl) (fun _ _ _ h => h) ?_ ?_
            rotate_left
            · first | (refine Or.inl ⟨by rfl, fun W hS => detR_value (w' := W) ?_ (Below.refl _ _)⟩; obtain ⟨hH, q1⟩ := hS; obtain ⟨x0, x1, x2, x3, x4, _⟩ := hH.1; go_simp; first | done | with_reducible rfl) | fail
            simp only [Act.put, List.setIfInBounds_toArray, List.set_cons_zero, List.set_cons_succ]
            refine takeW (i := 5) (v := ?_) (Stable.and (Stable.held _ _) (stable_ints (w.heap.size + 1) (.slice (some ⟨g, 0, none⟩) S'.length cp) S')) rfl (by kernel_rfl) (by kernel_rfl) (by kernel_rfl) (fun _ _ _ h => h) ?_ ?_
            rotate_left
            · first | (refine Or.inl ⟨by rfl, fun W hS => ?_⟩; obtain ⟨hH, q1⟩ := hS; refine detR_call (w' := W) (f := ?_) (args := ?_) ?_ ?_; rotate_left 2; (go_simp; (refine ⟨?_, ?_⟩ <;> with_reducible rfl)); (first | (with_reducible refine (HXO.out _).mono ?_) | fail); (first | (rintro e wn ⟨rfl, hb⟩; refine ⟨?_, hb⟩; with_reducible rfl) | (rintro e wn ⟨rfl, rfl⟩; refine ⟨?_, Below.refl _ _⟩; with_reducible rfl) | fail)) | fail
            simp only [Act.put, List.setIfInBounds_toArray, List.set_cons_zero, List.set_cons_succ]
            refine takeW (i := 6) (v := ?_) (Stable.and (Stable.held _ _) (stable_ints (w.heap.size + 1) (.slice (some ⟨g, 0, none⟩) S'.length cp) S')) rfl (by kernel_rfl) (by kernel_rfl) (by kernel_rfl) (fun _ _ _ h => h) ?_ ?_
            rotate_left
            · first | (refine Or.inl ⟨by rfl, fun W hS => detR_value (w' := W) ?_ (Below.refl _ _)⟩; obtain ⟨hH, q1⟩ := hS; obtain ⟨x0, x1, x2, x3, x4, _⟩ := hH.1; go_simp; first | done | with_reducible rfl) | fail
            simp only [Act.put, List.setIfInBounds_toArray, List.set_cons_zero, List.set_cons_succ]
            refine doneW (by kernel_rfl) fun wH3 HG => ?_
            obtain ⟨hH, q1⟩ := HG
            have H3 := Lib.hid hH; clear hH
            have MH3_q1 := Lib.hid q1; clear q1
            try clear x0 x1 x2 x3 x4
            obtain ⟨x0, x1, x2, x3, x4, _⟩ := H3.out.1
            go_wp2_with fail
            have H4 := Lib.hid (H3.out.only (gs := [(w.heap.size, 0, .slice A ns.length c), (w.heap.size, 1, .slice (some ⟨b2, o2, none⟩) ls.length c2)]) (fun ⟨_, _, a, b, _⟩ => ⟨a, b, trivial⟩) (fun ⟨_, _, a, b, _⟩ => ⟨a, b, trivial⟩))
            exact ⟨⟨S', j + 1, by omega, by go_num, hms, hxp, HWAY.out, HCN.out S' HCL.out (fun h => absurd h (Int.not_le.2 ho)), MH3_q1.out, H4.out⟩, by simp [intOf]; omega⟩
        · obtain rfl : j = ls.length := by omega
          have HNX := Lib.hid (HWAY.out.next (by rw [hxp]; exact HCL.out))
          go_wp2_with fail
          exact ⟨⟨S', m + 1, hms, by go_num, HNX.out, HOWN.out, H1.out⟩, by simp [intOf]; omega⟩
    · obtain rfl : m = S.length := by omega
      obtain ⟨g, cp, rfl⟩ := HOWN.out.some_ (by have := List.length_pos_of_mem HWAY.out.mem; omega)
      have HS := Lib.hid (HWAY.out.sorted HW.out)
      have hsz := H1.out.2.1.1
      have HSO := Lib.hid (sortInts HOWN.out (by omega) (by omega))
      go_wp2_with fail
      refine (HSO.out).mono ?_
      rintro e w2 ⟨rfl, hi, hb⟩
      rw [HS.out] at hi
      have HI2 := Lib.hid hi
      have HB2 := Lib.hid (H1.out.below.trans (hb.mono (Nat.le_succ _)))
      have hl : (partL ns ls q).length = S.length := by rw [← HS.out]; exact List.length_mergeSort _
      clear hi hb
      go_wp2_with fail
      go_ret
      exact ⟨_, rfl, HI2.out.mono (by omega), HB2.out⟩
end Go.Proofs.YtepacoacalhdcaaGreat

namespace Go.Proofs.YtepacoacalhdcaaGreat
open Go.RowKit
set_option linter.unusedVariables false
set_option linter.unusedSimpArgs false

def partI (ns ls : List Nd) (k : Int) : List Int := if hasB ns ls k = true then partL ns ls k.toNat else []

theorem partI_len (ns ls : List Nd) (k : Int) : (partI ns ls k).length ≤ 20 := by
  unfold partI
  split
  · rename_i h
    obtain ⟨_, _, _, _, h12, _⟩ := (show ∃ q : Nat, k = q ∧ q < ns.length ∧ winB ns ls = true ∧ ns.length ≤ 12 ∧ True from by
      unfold hasB at h
      simp only [Bool.and_eq_true] at h
      have h2 := (idxB_iff _ _).1 h.2
      have h3 := ((winB_iff ns ls).1 h.1).1
      exact ⟨k.toNat, by omega, by omega, h.1, h3.1.2, trivial⟩)
    have := fltN_len (fun p => decide (lab ls ls.length p = lab ls ls.length k.toNat)) ns.length
    unfold partL; omega
  · simp

def rootB (ls : List Nd) (p : Nat) : Bool := decide (lab ls ls.length p = p)

def partsI (ns ls : List Nd) : Int := if winB ns ls = true then ((fltN (rootB ls) ns.length).length : Int) else 0

def facesI (ns ls : List Nd) : Int := if winB ns ls = true then (ls.length : Int) - ns.length + 1 + partsI ns ls else 0

def panesI (ns ls : List Nd) : Int := max 0 (facesI ns ls - 1)

def forestB (ns ls : List Nd) : Bool := decide (facesI ns ls = 1)

theorem asc_head {l : List Int} (h : l.Pairwise (· < ·)) {x : Int} (hx : x ∈ l) (hm : ∀ y ∈ l, x ≤ y) : 0 < l.length ∧ atZ l 0 = x := by
  cases l with
  | nil => simp at hx
  | cons a t =>
    refine ⟨by simp, ?_⟩
    have h1 := hm a (by simp)
    rcases List.mem_cons.1 hx with e | hx
    · rw [e]; rfl
    · have := (List.pairwise_cons.1 h).1 x hx
      omega

theorem part_head {ns ls : List Nd} {q : Nat} (hq : q < ns.length) : 0 < (partL ns ls q).length ∧ atZ (partL ns ls q) 0 = (lab ls ls.length q : Nat) := by
  refine asc_head (fltN_asc _ _) ((fltN_mem _ _ _).2 ⟨lab ls ls.length q, rfl, by have := lab_le ls ls.length q; omega, by simp [lab_lab]⟩) fun y hy => ?_
  obtain ⟨p, rfl, hp, h⟩ := (fltN_mem _ _ _).1 hy
  have h' : lab ls ls.length p = lab ls ls.length q := by simpa using h
  have := lab_le ls ls.length p
  omega

theorem cnt_len (p : Nat → Bool) (m : Nat) : ((fltN p (m + 1)).length : Int) = if p m = true then ((fltN p m).length : Int) + 1 else ((fltN p m).length : Int) := by
  rw [fltN]
  split <;> simp

theorem cell_new0 (w : World) (x : Value) (T : TypeId) : (w.alloc (.cells #[x] T)).cell? ⟨w.heap.size, 0, none⟩ = some x := by rw [cell_of_cells (heap_alloc_new w _)]; rfl

theorem Ints.grown {w w' : World} {B : Nat} {v : Value} {xs : List Int} {row : Option Nat} (h : Ints w B v xs) (hg : w.grownBy w' row) (hne : ∀ k, v.ownBlock = some k → row ≠ some k) : Ints w' B v xs :=
  World.ownsRow.kept h hg (by
    cases e : v.ownBlock with
    | none => exact .inl rfl
    | some k => exact .inr (fun e2 => hne k e e2.symm))

theorem facesI_bound (ns ls : List Nd) : -100 ≤ facesI ns ls ∧ facesI ns ls ≤ 100 := by
  unfold facesI
  by_cases hw : winB ns ls = true
  · have h12 := ((winB_iff ns ls).1 hw).1.1.2
    have h20 := ((winB_iff ns ls).1 hw).1.2
    have := fltN_len (rootB ls) ns.length
    rw [if_pos hw]
    unfold partsI
    rw [if_pos hw]; omega
  · rw [if_neg hw]; omega

end Go.Proofs.YtepacoacalhdcaaGreat

namespace Go.Proofs.YtepacoacalhdcaaGreat
open Go.RowKit
set_option linter.unusedVariables false
set_option linter.unusedSimpArgs false

def cellsP : List Nd → List Value
  | [] => []
  | p :: ps => .int .i64 p.x :: .int .i64 p.y :: cellsP ps

theorem cellsP_len : ∀ xs : List Nd, (cellsP xs).length = xs.length * 2
  | [] => rfl
  | p :: ps => by simp only [cellsP, List.length_cons, cellsP_len ps]; omega

theorem cellsP_app : ∀ xs ys : List Nd, cellsP (xs ++ ys) = cellsP xs ++ cellsP ys
  | [], _ => rfl
  | p :: ps, ys => by simp only [cellsP, List.cons_append, cellsP_app ps ys]

theorem cellsP_get : ∀ (xs : List Nd) (j : Nat), j < xs.length → (cellsP xs)[j * 2]? = some (.int .i64 (atN xs j).x) ∧ (cellsP xs)[j * 2 + 1]? = some (.int .i64 (atN xs j).y)
  | p :: ps, 0, _ => ⟨rfl, rfl⟩
  | p :: ps, j + 1, h => by
    have := cellsP_get ps j (by simpa using h)
    rw [Nat.add_mul]
    exact this

theorem cellsP_set : ∀ (xs : List Nd) (j : Nat) (a b : Int), j < xs.length → ((cellsP xs).set (j * 2) (.int .i64 a)).set (j * 2 + 1) (.int .i64 b) = cellsP (xs.set j ⟨a, b⟩)
  | p :: ps, 0, _, _, _ => rfl
  | p :: ps, j + 1, a, b, h => by
    have := cellsP_set ps j a b (by simpa using h)
    rw [Nat.add_mul]
    simp only [cellsP, List.set_cons_succ, Nat.reduceMul]
    rw [← this]

theorem cellsP_one (xs : List Nd) : ∀ u ∈ cellsP xs, u.oneCell' = true := by
  induction xs with
  | nil => simp [cellsP]
  | cons p ps ih =>
    intro u hu
    simp only [cellsP, List.mem_cons] at hu
    rcases hu with rfl | rfl | hu
    · rfl
    · rfl
    · exact ih u hu

/-- The slice v reads as the pairs xs; its memory is a block of its own from B on. -/
def Own (w : World) (B : Nat) (T : TypeId) (v : Value) (xs : List Nd) : Prop := w.ownsRow B T 2 v xs.length (cellsP xs)

theorem Own.nil (w : World) (B : Nat) (T : TypeId) : Own w B T (.slice none 0 0) [] := World.ownsRow_nil w B _ 2

theorem Own.made (w : World) (b B : Nat) (T : TypeId) (hb : b = w.heap.size) (hB : B ≤ b) : Own (w.alloc (.cells #[] T)) B T (.slice (some ⟨b, 0, none⟩) 0 0) [] := by
  subst hb
  exact World.ownsRow_made _ _ _ hB (by unfold maxLen; omega) rfl

theorem Own.own {w : World} {B : Nat} {T : TypeId} {v : Value} {xs : List Nd} (h : Own w B T v xs) : ∀ k, v.ownBlock = some k → B ≤ k ∧ k < w.heap.size := World.ownsRow.lt h

theorem Own.step {w w' : World} {B : Nat} {T : TypeId} {v : Value} {xs : List Nd} (h : Own w B T v xs) (hb : Below w.heap.size w w') : Own w' B T v xs :=
  World.ownsRow.kept h (row := none) ⟨hb.os, hb.tape, hb.output, hb.size, fun k hk _ => hb.block k (by omega)⟩ (by cases v.ownBlock <;> simp)

theorem Own.mono {w : World} {B b' : Nat} {T : TypeId} {v : Value} {xs : List Nd} (h : Own w B T v xs) (hb : b' ≤ B) : Own w b' T v xs := by
  refine ⟨h.1, ?_⟩
  rcases h.2 with h0 | ⟨g, cap, cur, hv, hg, r⟩
  · exact .inl h0
  · exact .inr ⟨g, cap, cur, hv, Nat.le_trans hb hg, r⟩

theorem Own.keep {w w' : World} {B : Nat} {T : TypeId} {v : Value} {xs : List Nd} (h : Own w B T v xs) (hk : ∀ k, v.ownBlock = some k → w'.heap[k]? = w.heap[k]?) : Own w' B T v xs := by
  refine ⟨h.1, ?_⟩
  rcases h.2 with h0 | ⟨g, cap, cur, hv, hb, hg, r⟩
  · exact .inl h0
  · exact .inr ⟨g, cap, cur, hv, hb, (hk g (by rw [hv]; rfl)).trans hg, r⟩

theorem Own.form {w : World} {B : Nat} {T : TypeId} {v : Value} {xs : List Nd} (h : Own w B T v xs) :
    ∃ a cap, v = .slice a xs.length cap ∧ xs.length ≤ cap ∧ cap ≤ maxLen ∧ ((a = none ∧ xs = []) ∨ ∃ g, a = some ⟨g, 0, none⟩ ∧ B ≤ g ∧ g < w.heap.size ∧
      ∀ j, j < xs.length → w.cell? ⟨g, j * 2, none⟩ = some (.int .i64 (atN xs j).x) ∧ w.cell? ⟨g, j * 2 + 1, none⟩ = some (.int .i64 (atN xs j).y) ∧ w.frozen? ⟨g, j * 2, none⟩ = false ∧ w.frozen? ⟨g, j * 2 + 1, none⟩ = false) := by
  have H := h
  unfold Own at h
  rcases h.2 with ⟨rfl, h0⟩ | ⟨g, cap, cur, rfl, hb, hg, hnc, hcm, hcs, ht⟩
  · exact ⟨none, 0, by rw [h0], by rw [h0]; exact Nat.le_refl _, by unfold maxLen; omega, .inl ⟨rfl, List.eq_nil_of_length_eq_zero h0⟩⟩
  · refine ⟨some ⟨g, 0, none⟩, cap, rfl, hnc, hcm, .inr ⟨g, rfl, hb, lt_of_block hg, fun j hj => ?_⟩⟩
    have hc := cellsP_get xs j hj
    exact ⟨by rw [World.ownsRow.cellAt H _ (by omega)]; exact hc.1, by rw [World.ownsRow.cellAt H _ (by omega)]; exact hc.2, World.ownsRow.frozenAt H _, World.ownsRow.frozenAt H _⟩

theorem Own.prs {w : World} {B : Nat} {T : TypeId} {v : Value} {xs : List Nd} (h : Own w B T v xs) : Prs w v xs := by
  obtain ⟨a, cap, rfl, hc, hm, hx⟩ := h.form
  refine ⟨a, cap, rfl, hc, hm, fun h0 => ?_⟩
  rcases hx with ⟨_, rfl⟩ | ⟨g, rfl, _, hlt, hcs⟩
  · simp at h0
  · refine ⟨g, 0, rfl, hlt, fun k hk => ?_⟩
    rw [Nat.zero_add]
    exact ⟨(hcs k hk).1, (hcs k hk).2.1⟩

theorem Own.more {w' : World} {B : Nat} {T : TypeId} {v : Value} {xs ys : List Nd} (h : w'.ownsRow B T 2 v (xs.length + ys.length) (cellsP xs ++ cellsP ys)) : Own w' B T v (xs ++ ys) := by
  unfold Own
  rw [List.length_append, cellsP_app]
  exact h

theorem prs_news {w : World} {A : Addr} {c : Nat} {xs : List Nd} (h : Prs w (.slice (some A) xs.length c) xs) (h0 : 0 < xs.length) : ∀ j u, (cellsP xs)[j]? = some u → w.cell? (A.add j) = some u := by
  obtain ⟨A', c', he, _, _, hx⟩ := h
  obtain ⟨b, o, hA, _, hcs⟩ := hx h0
  injection he with e1 _ _
  rw [← e1] at hA
  injection hA with hA
  subst hA
  intro j u hu
  have hj : j < xs.length * 2 := by
    rw [← cellsP_len]
    exact (List.getElem?_eq_some_iff.1 hu).1
  have hg := cellsP_get xs (j / 2) (by omega)
  have hc := hcs (j / 2) (by omega)
  rw [Go.WideShapes.add_plain]
  by_cases e : j % 2 = 0
  · rw [show j = j / 2 * 2 by omega] at hu ⊢
    rw [hg.1] at hu
    rw [← hu]
    exact hc.1
  · rw [show j = j / 2 * 2 + 1 by omega] at hu ⊢
    rw [hg.2] at hu
    rw [← hu, ← Nat.add_assoc]
    exact hc.2

theorem grown_belowP {B : Nat} {W W' : World} {T : TypeId} {v : Value} {xs : List Nd} (h : Own W B T v xs) (hB : B ≤ W.heap.size) (hg : W.grownBy W' v.ownBlock) : Below B W W' :=
  (Below.refl B W).grown hg hB fun k e => (h.own k e).1

/-- What is returned: the pairs xs in new memory. -/
def PrsNew (T : TypeId) (xs : List Nd) (w : World) (e : Ending) (w' : World) : Prop := ∃ v, e = .returned v ∧ Own w' w.heap.size T v xs ∧ Below w.heap.size w w'
end Go.Proofs.YtepacoacalhdcaaGreat

namespace Go.Proofs.YtepacoacalhdcaaGreat
open Go.RowKit
set_option linter.unusedVariables false
set_option linter.unusedSimpArgs false

/-- An empty slice in a block of its own from B on. -/
def NewE (B : Nat) (T : TypeId) (v : Value) (W : World) : Prop := ∃ b, v = .slice (some ⟨b, 0, none⟩) 0 0 ∧ B ≤ b ∧ W.heap[b]? = some (.cells #[] T (0, 0))

theorem stable_newE (B : Nat) (T : TypeId) (v : Value) : Stable fun W => NewE B T v W := fun _ _ ⟨b, h1, h2, h3⟩ hb => ⟨b, h1, h2, (hb.block b (lt_of_block h3)).trans h3⟩

theorem stable_own (B : Nat) (T : TypeId) (v : Value) (xs : List Nd) : Stable fun W => Own W B T v xs := fun _ _ h hb => h.step hb

section

variable {P : Program}

theorem run_append_empty {w : World} {B g : Nat} {t ty e : TypeId} {i : TypeInfo} {z v : Value} {xs : List Nd} (ht : P.underlying t = some (.slice e)) (hi : P.info? e = some i) (hz : i.zero = some z)
    (hsize : i.size = 2) (hby : i.bytes = 16) (hzs : z.cells.size = 2) (hg : w.heap[g]? = some (.cells #[] e (0, 0))) (hB : B ≤ g) (hv : Prs w v xs) (hlen : xs.length ≤ 1048576) :
    ∃ v' w', (Builtin.append_ #[t, t] ty #[.slice (some ⟨g, 0, none⟩) 0 0, v]).run P w = .ok v' w' ∧ Own w' B e v' xs ∧ Below w.heap.size w w' := by
  have hgl := lt_of_block hg
  have hown : w.ownsRow B e 2 (.slice (some ⟨g, 0, none⟩) 0 0) 0 [] := ⟨by simp, .inr ⟨g, 0, #[], rfl, hB, hg, Nat.le_refl _, Nat.zero_le _, rfl, rfl⟩⟩
  have HV := hv
  obtain ⟨A, c, rfl, hl, hc, hx⟩ := hv
  by_cases h0 : xs.length = 0
  · obtain rfl : xs = [] := List.eq_nil_of_length_eq_zero h0
    cases A with
    | none =>
      refine ⟨_, w, ?_, hown, Below.refl _ _⟩
      simp [Builtin.append_, run_underlying ht, sizeOf, typeInfo, hi, Builtin.lenOf, Builtin.firstCells, storeCells]
    | some a =>
      have hr := run_append_room (P := P) w t ty e i ht hi g 0 0 #[] hg a 0 c [] (by simp) (fun j u h => by simp at h) (fun u h => by simp at h) (Nat.le_refl _) (by simp)
      simp only [Nat.zero_mul, Nat.add_zero] at hr
      refine ⟨_, _, hr, ?_, ⟨rfl, rfl, rfl, by simp [World.setRow], fun k hk => ?_⟩⟩
      · exact ⟨by simp [cellsP], .inr ⟨g, 0, _, rfl, hB, setRow_heap w g #[] _ e _ hg, Nat.le_refl _, Nat.zero_le _, rfl, by simp [cellsP]⟩⟩
      · by_cases hkg : k = g
        · subst hkg; rw [setRow_heap w k #[] _ e _ hg, hg]; rfl
        · exact setRow_other w g k _ hkg
  · obtain ⟨b, o, rfl, hbl, hcs⟩ := hx (by omega)
    have hn := prs_news HV (by omega)
    have hr := run_append_grow (P := P) w t ty e i z ht hi hz ⟨g, 0, none⟩ 0 0 [] (by simp) (fun j u h => by simp at h) ⟨b, o, none⟩ xs.length c (cellsP xs) (by rw [cellsP_len, hsize]) hn (by omega) (by omega)
      (by rw [Nat.zero_add, nextslicecap_zero (by omega), hby]; omega)
    refine ⟨_, _, hr, ?_, (Below.refl _ _).drew.alloc (by simp) _⟩
    have hge := grownCap_ge w (0 + xs.length) 0 e
    have hcm := grownCap_le_maxLen w (0 + xs.length) 0 e (by unfold maxLen; omega)
    unfold Own
    refine ⟨cellsP_len _, .inr ⟨w.heap.size, _, _, by rw [Nat.zero_add], by omega, heap_alloc_new w.drew _, ?_, ?_, ?_, ?_⟩⟩
    · simpa using hge
    · simpa using hcm
    · simp only [Array.size_append, List.size_toArray, size_zeroCells, hzs, List.length_nil, cellsP_len, Nat.zero_add] at hge ⊢
      omega
    · rw [← cellsP_len]
      simp

theorem wpList_append_run {ops : Array Oper} {rest : List Oper} {o : Oper} {a : Act} {w : World} {Q : Exit → Act → World → Prop} (hgd : o.guard = none) (s x : Operand) (t : TypeId)
    (ho : o.op = .call { callee := .builtin .append, args := #[s, x], argTypes := #[t, t] }) (v' : Value) (w' : World) (hr : (Builtin.append_ #[t, t] o.type #[a.eval s, a.eval x]).run P w = .ok v' w')
    (h : wpList P ops Q rest (a.put o.dst v') w') : wpList P ops Q (o :: rest) a w :=
  wpList_plain hgd fun _ hK => by
    unfold Oper.wp execOp
    simp only [ho, resolve, invoke, builtin, Sem.run_bind, Sem.run_pure, Result.andThen_ok, List.map_toArray, List.map_cons, List.map_nil, hr]
    exact hK _ _ h

theorem freeR_append {ρ : Operand → Value} {o : Oper} {w : World} {s x : Operand} {t : TypeId} {B : Nat} {e : TypeId} {i : TypeInfo} {z u v : Value} {xs : List Nd} (hu : NewE B e u w) (hv : Prs w v xs) (hlen : xs.length ≤ 1048576)
    (ht : P.underlying t = some (.slice e)) (hi : P.info? e = some i) (hz : i.zero = some z) (hsize : i.size = 2) (hby : i.bytes = 16) (hzs : z.cells.size = 2)
    (ho : o.op = .call { callee := .builtin .append, args := #[s, x], argTypes := #[t, t] }) (hs : ρ s = u) (hx : ρ x = v) : FreeR P (fun u W => Own W B e u xs) w ((execOp ρ o).run P w) := by
  obtain ⟨b, rfl, hB, hg⟩ := hu
  obtain ⟨v', w', hr, h1, h2⟩ := run_append_empty (ty := o.type) ht hi hz hsize hby hzs hg hB hv hlen
  unfold execOp
  simp only [ho, resolve, invoke, builtin, Sem.run_bind, Sem.run_pure, Result.andThen_ok, List.map_toArray, List.map_cons, List.map_nil, hs, hx, hr]
  exact ⟨h1, h2⟩

theorem freeR_newE {w : World} {B : Nat} {T : TypeId} {r : Result Next} (h : r = .ok (.value (.slice (some ⟨w.heap.size, 0, none⟩) 0 0)) (w.alloc (.cells #[] T))) (hB : B ≤ w.heap.size) : FreeR P (NewE B T) w r := by
  subst h
  exact ⟨⟨_, rfl, hB, heap_alloc_new w _⟩, (Below.refl _ _).alloc (Nat.le_refl _) _⟩

end

/-- Block b holds n cells of type T. -/
def BlkN (b : Nat) (T : TypeId) (n : Nat) (W : World) : Prop := ∃ cs, W.heap[b]? = some (.cells cs T (0, 0)) ∧ cs.size = n

def BlkIs (b : Nat) (T : TypeId) (cells : Array Value) (W : World) : Prop := W.heap[b]? = some (.cells cells T (0, 0))

theorem stable_blkN (b : Nat) (T : TypeId) (n : Nat) : Stable fun W => BlkN b T n W := fun _ _ ⟨cs, h1, h2⟩ hb => ⟨cs, (hb.block b (lt_of_block h1)).trans h1, h2⟩

theorem stable_blkIs (b : Nat) (T : TypeId) (cells : Array Value) : Stable fun W => BlkIs b T cells W := fun _ _ h hb => (hb.block b (lt_of_block h)).trans h

theorem Own.setRow {W : World} {B b n : Nat} {T U : TypeId} {v : Value} {xs : List Nd} (h : Own W B T v xs) (hb : BlkN b U n W) (hne : T ≠ U) (cs : Array Value) : Own (W.setRow b cs) B T v xs := by
  refine h.keep fun k hk => setRow_other W b k cs fun e => ?_
  rcases h.2 with ⟨hv, _⟩ | ⟨g, cap, cur, hv, _, hg, _⟩
  · rw [hv] at hk; cases hk
  · rw [hv] at hk
    injection hk with hk
    obtain ⟨cs', hc, _⟩ := hb
    have e' : g = b := hk.trans e
    rw [e'] at hg
    rw [hg] at hc
    injection hc with hc
    injection hc with _ hc _
    exact hne hc

/-- Two slices of different element types lie in different blocks. -/
theorem Own.apart {W : World} {B B' : Nat} {T U : TypeId} {v u : Value} {xs ys : List Nd} (h : Own W B T v xs) (k : Own W B' U u ys) (hne : T ≠ U) : ∀ g, v.ownBlock = some g → u.ownBlock ≠ some g := by
  intro g hv hu
  rcases h.2 with ⟨rfl, _⟩ | ⟨b, cap, cur, rfl, _, hb, _⟩
  · cases hv
  · rcases k.2 with ⟨rfl, _⟩ | ⟨b', cap', cur', rfl, _, hb', _⟩
    · cases hu
    · injection hv with hv
      injection hu with hu
      have e : b = b' := hv.trans hu.symm
      rw [e, hb'] at hb
      injection hb with hb
      injection hb with _ hb _
      exact hne hb.symm

theorem Held.setRowAt {w W : World} {fs : List (Nat × Nat × Value)} {b : Nat} (h : Held w W fs) (hd : ∀ f ∈ fs, f.1 ≠ b) (hb : w.heap.size ≤ b) (cs : Array Value) : Held w (W.setRow b cs) fs := by
  refine ⟨?_, by rw [show (W.setRow b cs).heap.size = W.heap.size from by simp [World.setRow]]; exact h.2.1, h.2.2.trans ⟨rfl, rfl, rfl, by simp [World.setRow], fun k hk => setRow_other W b k cs (by omega)⟩⟩
  have hc := h.1
  clear h
  induction fs with
  | nil => trivial
  | cons f fs ih =>
    obtain ⟨b', o, v⟩ := f
    exact ⟨(World.cell?_of_block (setRow_other W b b' cs (hd _ (List.mem_cons_self ..)))).trans hc.1, ih (fun f hf => hd f (List.mem_cons_of_mem _ hf)) hc.2⟩

section

variable {P : Program} {Q : Exit → Act → World → Prop} {md : Region.Mode}

theorem storeK {l rest : List Oper} {i : Nat} {oi : Oper} {fuel : Nat} {listed : Array Bool} {a : Act} {b n : Nat} {T : TypeId} {G : World → Prop} {ty : TypeId} {x y : Operand} (cells : Array Value)
    (hst : Stable G) (hb : ∀ W, G W → BlkN b T n W) (hk : ∀ W, G W → G (W.setRow b cells))
    (hi : l.drop i = oi :: rest) (hr : Region.ready md l.toArray listed = [i]) (hw : Region.wanted oi (yielded l.toArray a.tmps) = true) (ho : oi.op = .store ty x y) (hx : a.eval x = .pointer (some ⟨b, 0, none⟩)) (hy : a.eval y = .agg cells)
    (hn : cells.size = n) (hinfo : (P.info? ty).map (·.size) = some cells.size) (h1 : cells.all (·.oneCell') = true)
    (h : wpAnyW P md l.toArray Q fuel (listed.setIfInBounds i true) (a.put oi.dst undef) (fun W => G W ∧ BlkIs b T cells W)) :
    wpAnyW P md l.toArray Q (fuel + 1) listed a G := by
  subst hn
  refine effW (v := undef) (fun W => BlkIs b T cells W) hst (stable_blkIs _ _ _) hi hr hw (fun W hG => ?_) h
  obtain ⟨cs, hc, hs⟩ := hb W hG
  unfold execOp
  simp only [ho, hx, hy, Instr.storeAt, Instr.sureAddr, Sem.run_bind, Sem.run_pure, Result.andThen_ok, run_storeVar_row W b T ty cs cells hc hinfo hs h1]
  exact ⟨rfl, hk W hG, setRow_heap W b cs cells T _ hc⟩

theorem BlkN.setRow {b n : Nat} {T : TypeId} {W : World} (h : BlkN b T n W) {cs : Array Value} (hn : cs.size = n) : BlkN b T n (W.setRow b cs) := by
  obtain ⟨c0, hc, _⟩ := h
  exact ⟨cs, setRow_heap W b c0 cs T _ hc, hn⟩

/-- Either of two operations may come up. -/
theorem freeOr {l : List Oper} {i j : Nat} {fuel : Nat} {listed : Array Bool} {a : Act} {G : World → Prop} (hr : Region.ready md l.toArray listed = [i, j])
    (hi : ∀ w, G w → wpOp P l.toArray Q i (fun a' w' => ∃ G' : World → Prop, Stable G' ∧ (∀ x, G' x → G x) ∧ G' w' ∧ wpAnyW P md l.toArray Q fuel (listed.setIfInBounds i true) a' G') a w)
    (hj : ∀ w, G w → wpOp P l.toArray Q j (fun a' w' => ∃ G' : World → Prop, Stable G' ∧ (∀ x, G' x → G x) ∧ G' w' ∧ wpAnyW P md l.toArray Q fuel (listed.setIfInBounds j true) a' G') a w) :
    wpAnyW P md l.toArray Q (fuel + 1) listed a G := by
  refine ⟨fun h0 => (by rw [hr] at h0; cases h0), fun k hk w hG => ?_⟩
  rw [hr] at hk
  rcases List.mem_cons.1 hk with rfl | hk
  · exact hi w hG
  · obtain rfl : k = j := by simpa using hk
    exact hj w hG

theorem freeOp {l rest : List Oper} {i : Nat} {oi : Oper} {fuel : Nat} {listed : Array Bool} {a : Act} {G : World → Prop} (R : Value → World → Prop) (hst : Stable G) (hR : ∀ v, Stable (R v)) (hi : l.drop i = oi :: rest)
    (hw : Region.wanted oi (yielded l.toArray a.tmps) = true) (hy : ∀ w, G w → FreeR P R w ((execOp a.eval oi).run P w))
    (h : ∀ v, (∃ W, R v W) → wpAnyW P md l.toArray Q fuel (listed.setIfInBounds i true) (a.put oi.dst v) (fun x => G x ∧ R v x)) :
    ∀ w, G w → wpOp P l.toArray Q i (fun a' w' => ∃ G' : World → Prop, Stable G' ∧ (∀ x, G' x → G x) ∧ G' w' ∧ wpAnyW P md l.toArray Q fuel (listed.setIfInBounds i true) a' G') a w := by
  intro w hG
  unfold wpOp
  simp only [get_of_drop hi, hw, if_true]
  refine .inl ?_
  unfold Oper.wp
  have hd := hy w hG
  generalize (execOp a.eval oi).run P w = r at *
  cases r with
  | ok n w' =>
    cases n <;> simp only [FreeR] at hd <;> simp only [Oper.upon]
    case value u => exact ⟨_, hst.and (hR u), fun _ hx => hx.1, ⟨hst _ _ hG hd.2, hd.1⟩, h u ⟨_, hd.1⟩⟩
    case enter f args => exact hd.mono fun e w'' he => by obtain ⟨u, rfl, h1, h2⟩ := he; exact ⟨_, hst.and (hR u), fun _ hx => hx.1, ⟨hst _ _ hG h2, h1⟩, h u ⟨_, h1⟩⟩
  | halt x w' => simp [FreeR] at hd

theorem freeX {l rest : List Oper} {i : Nat} {oi : Oper} {fuel : Nat} {listed : Array Bool} {a : Act} {G : World → Prop} (R : Value → World → Prop) (hst : Stable G) (hR : ∀ v, Stable (R v)) (hi : l.drop i = oi :: rest)
    (hr : Region.ready md l.toArray listed = [i]) (hw : Region.wanted oi (yielded l.toArray a.tmps) = true) (hy : ∀ w, G w → FreeR P R w ((execOp a.eval oi).run P w))
    (h : ∀ v, (∃ W, R v W) → wpAnyW P md l.toArray Q fuel (listed.setIfInBounds i true) (a.put oi.dst v) (fun x => G x ∧ R v x)) : wpAnyW P md l.toArray Q (fuel + 1) listed a G := by
  refine ⟨fun h0 => (by rw [hr] at h0; cases h0), fun j hj w hG => ?_⟩
  rw [hr] at hj
  obtain rfl : j = i := by simpa using hj
  exact freeOp R hst hR hi hw hy h w hG

end
end Go.Proofs.YtepacoacalhdcaaGreat
