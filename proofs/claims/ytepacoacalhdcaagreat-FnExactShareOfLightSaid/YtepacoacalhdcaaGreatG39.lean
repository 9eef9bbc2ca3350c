/-
  Several texts in one: a claim has at most 60 files.
-/
import Derived.Test.YtepacoacalhdcaaGreatG24
import Derived.Test.YtepacoacalhdcaaGreatG1
import Derived.LoopTactic
import Derived.Outline
import Derived.Deep.QuietTactic
import Derived.BigQuiet
import Derived.Deep.RegionHeld3
import Derived.BigGuardPart
import Derived.Deep.Draws
import Derived.RegionTactic
import Derived.ChangeAlike

namespace Go.Proofs.YtepacoacalhdcaaGreat
open Go.RowKit
set_option linter.unusedVariables false
set_option linter.unusedSimpArgs false

/-- A boxed window. -/
def BW (w : World) (vn vl : Value) : List (Nat × Nat × Value) := [(w.heap.size, 0, vn), (w.heap.size, 1, vl)]

theorem heldW (w : World) (vn vl : Value) (T : TypeId) : Held w (w.alloc (.cells #[vn, vl] T)) (BW w vn vl) := (Held.none_ w).new2 w.heap.size rfl [vn, vl] T

theorem held_more {w W : World} {fs gs : List (Nat × Nat × Value)} (h : Held w W fs) (hc : Cs W gs) (hb : Bs W.heap.size gs) : Held w W (fs ++ gs) :=
  ⟨h.1.append hc, h.2.1.append hb, h.2.2⟩

set_option maxRecDepth 100000 in
set_option maxHeartbeats 2000000 in
theorem specWin (ns ls : List Nd) (vn vl : Value) (w : World) (hn : Prs w vn ns) (hl : Prs w vl ls) :
    Calls Tryz.prog 140 #[.agg #[vn, vl]] w (BoolIs (winB ns ls) w) := by
  have hnl := hn.len
  have hll := hl.len
  have HN := Lib.hid hn
  have HL := Lib.hid hl
  have H0 := Lib.hid (heldW w vn vl 32)
  have HI := Lib.hid (specIn ns.length 1 12)
  obtain ⟨An, cn, rfl⟩ := prs_form2 hn
  obtain ⟨Al, cl, rfl⟩ := prs_form2 hl
  clear hn hl
  unfold BW at H0
  by_cases h1 : 1 ≤ ns.length ∧ ns.length ≤ 12
  case neg =>
    have e : inB (ns.length : Int) 1 12 = false := by
      cases h : inB (ns.length : Int) 1 12
      · rfl
      · rw [inB_iff] at h; exact absurd ⟨by omega, by omega⟩ h1
    rw [e] at HI
    have HZ := Lib.hid (winB_size (ns := ns) (ls := ls) fun k => h1 k.1)
    clear h1 e
    go_enter Tryz.func140, Tryz.ntmps140
    go_wp2_with fail
    refine (HI.out _).mono ?_
    rintro e w' ⟨rfl, rfl⟩
    go_wp2_with fail
    go_ret
    exact ⟨ret_bool HZ.out.symm, H0.out.below⟩
  have e : inB (ns.length : Int) 1 12 = true := by rw [inB_iff]; omega
  rw [e] at HI
  clear e
  by_cases h2 : ls.length ≤ 20
  case neg =>
    have HZ := Lib.hid (winB_size (ns := ns) (ls := ls) fun k => h2 k.2)
    go_enter Tryz.func140, Tryz.ntmps140
    go_wp2_with fail
    refine (HI.out _).mono ?_
    rintro e w' ⟨rfl, rfl⟩
    go_wp2_with fail
    go_ret
    exact ⟨ret_bool HZ.out.symm, H0.out.below⟩
  obtain ⟨h1a, h1b⟩ := h1
  go_enter Tryz.func140, Tryz.ntmps140
  go_wp2_with fail
  refine (HI.out _).mono ?_
  rintro e w' ⟨rfl, rfl⟩
  go_wp2_with fail
  go_loopw [3] (fun i wr => ∃ k : Nat, k ≤ ns.length ∧ i = .int .i64 k ∧ NodesOk ns k ∧ Held w wr [(w.heap.size, 0, .slice An ns.length cn), (w.heap.size, 1, .slice Al ls.length cl)]) (fun i _ => ns.length - (intOf i).toNat)
  case atStart => exact ⟨0, Nat.zero_le _, rfl, NodesOk.zero ns, H0.out⟩
  case round =>
    obtain ⟨k, hk, rfl, hok, hh⟩ := hrel
    have HO := Lib.hid hok; clear hok
    have H1 := Lib.hid hh; clear hh
    obtain ⟨x0, x1, _⟩ := H1.out.1
    by_cases hlt : k < ns.length
    · obtain ⟨b, o, c', he, hbl, hcs⟩ := prs_at2 (HN.out.step H1.out.below) hlt
      injection he with he1 he2 he3
      subst he1
      clear he2 he3
      have hck := hcs k hlt
      have HC := Lib.hid hcs; clear hcs
      have HK := Lib.hid (specNodeOk (atN ns k))
      have H2 := Lib.hid (held_more H1.out (P1_cs HC.out hlt) (P1_bs (k := k) hbl))
      unfold P1 at H2
      have HNK := Lib.hid (fun h => winB_node (ls := ls) hlt h)
      have HTW := Lib.hid (fun i hi h => winB_twice (ls := ls) (i := i) hlt hi h)
      have HSU := Lib.hid (fun h1 h2 => HO.out.succ h1 h2)
      have HEQ := Lib.hid (fun i => eqNd (atN ns i) (atN ns k))
      have HDE := Lib.hid (fun i => (show decide (atN ns i = atN ns k) = true ↔ atN ns i = atN ns k by simp))
      generalize hkn : okB (atN ns k) = kk at *
      have HKN := Lib.hid hkn; clear hkn
      obtain ⟨nk, hnk⟩ : ∃ n, n = atN ns k := ⟨_, rfl⟩
      rw [← hnk] at HK H2 HEQ HDE
      have HNN := Lib.hid hnk; clear hnk
      obtain ⟨kx, ky⟩ := nk
      unfold Nd.val at HK
      simp only at HK H2 HEQ
      clear hck x0 x1
      obtain ⟨x0, x1, x2, x3, _⟩ := H2.out.1
      have hz1 : (k : Int) < (ns.length : Int) := by omega
      cases kk
      · go_wp2_with fail
        refine (HK.out _).mono ?_
        rintro e wH3 ⟨rfl, hb⟩
        have H3 := Lib.hid ((H2.out).step hb); clear hb
        try clear x0 x1 x2 x3
        obtain ⟨x0, x1, x2, x3, _⟩ := H3.out.1
        go_wp2_with fail
        go_ret
        exact ⟨ret_bool (HNK.out trivial).symm, H3.out.below⟩
      · go_wp2_with fail
        refine (HK.out _).mono ?_
        rintro e wH3 ⟨rfl, hb⟩
        have H3 := Lib.hid ((H2.out).step hb); clear hb
        try clear x0 x1 x2 x3
        obtain ⟨x0, x1, x2, x3, _⟩ := H3.out.1
        go_wp2_with fail
        clear x0 x1 x2 x3
        go_loopw [4] (fun i wr => ∃ i' : Nat, i' ≤ k ∧ i = .int .i64 i' ∧ (∀ j, j < i' → atN ns j ≠ atN ns k) ∧ Held w wr [(w.heap.size, 0, .slice (some ⟨b, o, none⟩) ns.length cn), (w.heap.size, 1, .slice Al ls.length cl), (b, o + k * 2, .int .i64 kx), (b, o + k * 2 + 1, .int .i64 ky)]) (fun i _ => k - (intOf i).toNat)
        case atStart => exact ⟨0, Nat.zero_le _, rfl, fun j hj => by omega, H3.out⟩
        case round =>
          obtain ⟨i, hi, rfl, hne, hh⟩ := hrel
          have HNE := Lib.hid hne; clear hne
          have H4 := Lib.hid hh; clear hh
          obtain ⟨x0, x1, x2, x3, _⟩ := H4.out.1
          by_cases hik : i < k
          · obtain ⟨b', o', c'', he, hbl', hcs⟩ := prs_at2 (HN.out.step H4.out.below) (k := i) (by omega)
            injection he with he1 he2 he3
            injection he1 with he1
            injection he1 with he4 he5 he6
            subst he4
            subst he5
            clear he2 he3 he6
            obtain ⟨ci0, ci1⟩ := hcs i (by omega)
            have q := HEQ.out i
            have HTWI := Lib.hid (HTW.out i hik)
            have hze : (decide (atN ns i = atN ns k) = true) = (atN ns i = atN ns k) := by simp
            rw [← HNN.out] at hze
            have HZE := Lib.hid hze; clear hze
            have HSN := Lib.hid (fun (h : atN ns i ≠ atN ns k) => (fun j (hj : j < i + 1) => (if e : j = i then e ▸ h else HNE.out j (by omega)) : ∀ j, j < i + 1 → atN ns j ≠ atN ns k))
            generalize hd : decide (atN ns i = ⟨kx, ky⟩) = d at *
            have HD := Lib.hid hd; clear hd
            clear hcs hbl'
            have hz3 : (i : Int) < (ns.length : Int) := by omega
            have hz4 : (0 : Int) ≤ i := by omega
            have hz5 : (0 : Int) ≤ k := by omega
            generalize hni : atN ns i = ni at *
            have HNI := Lib.hid hni; clear hni
            obtain ⟨ix, iy⟩ := ni
            simp only at q ci0 ci1
            cases d
            · go_wp2_with fail
              go_quiet (fail)
              go_wp2_with fail
              exact ⟨⟨i + 1, by omega, by go_num, HSN.out (by rw [← HNN.out]; exact of_decide_eq_false HD.out), H4.out.drewN _⟩, by simp [intOf]; omega⟩
            · go_wp2_with fail
              go_quiet (fail)
              go_wp2_with fail
              go_ret
              exact ⟨ret_bool (HTWI.out (by rw [← HNN.out]; exact of_decide_eq_true HD.out)).symm, (H4.out.drewN _).below⟩
          · obtain rfl : i = k := by omega
            go_wp2_with fail
            exact ⟨⟨i + 1, by omega, by go_num, HSU.out trivial (fun j hj => HNE.out j hj), H4.out.only (fun ⟨a, b, _⟩ => ⟨a, b, trivial⟩) (fun ⟨a, b, _⟩ => ⟨a, b, trivial⟩)⟩, by simp [intOf]; omega⟩
    · obtain rfl : k = ns.length := by omega
      clear hlt hk
      go_wp2_with fail
      clear x0 x1
      go_loopw [5] (fun i wr => ∃ m : Nat, m ≤ ls.length ∧ i = .int .i64 m ∧ LeadsOk ns ls m ∧ Held w wr [(w.heap.size, 0, .slice An ns.length cn), (w.heap.size, 1, .slice Al ls.length cl)]) (fun i _ => ls.length - (intOf i).toNat)
      case atStart => exact ⟨0, Nat.zero_le _, rfl, LeadsOk.zero ns ls, H1.out⟩
      case round =>
        clear H1
        obtain ⟨m, hm, rfl, hlk, hh⟩ := hrel
        have HLK := Lib.hid hlk; clear hlk
        have H1 := Lib.hid hh; clear hh
        obtain ⟨x0, x1, _⟩ := H1.out.1
        by_cases hlt : m < ls.length
        · obtain ⟨b2, o2, c', he, hbl, hcs⟩ := prs_at2 (HL.out.step H1.out.below) hlt
          injection he with he1 he2 he3
          subst he1
          clear he2 he3
          have H2 := Lib.hid (held_more H1.out (P1_cs hcs hlt) (P1_bs (k := m) hbl))
          unfold P1 at H2
          clear hcs
          have HLO := Lib.hid (fun w hv => specLeadOk ns (.slice An ns.length cn) (atN ls m) w hv)
          have HNL := Lib.hid (fun h => winB_lead (ns := ns) hlt h)
          have HSU := Lib.hid (fun h1 h2 h3 => HLK.out.succ h1 h2 h3)
          have HCR := Lib.hid (fun i w hv => specCross ns (.slice An ns.length cn) (atN ls i) (atN ls m) w hv)
          have HON := Lib.hid (fun i w hv => specOn ns (.slice An ns.length cn) (atN ls m) (atN ns i) w hv)
          have HNC := Lib.hid (fun i hi h => winB_cross (ns := ns) (ls := ls) (i := i) hlt hi h)
          have HNO := Lib.hid (fun i hi hx hy h => winB_on (ns := ns) (ls := ls) (k := m) (i := i) hlt hi hx hy h)
          generalize leadOkB ns (atN ls m) = lk at *
          generalize hlm : atN ls m = l at *
          have HLM := Lib.hid hlm; clear hlm
          obtain ⟨lx, ly⟩ := l
          unfold Nd.val at HLO HCR HON
          simp only at HLO HCR HON H2 HSU HNO
          clear x0 x1
          obtain ⟨x0, x1, x2, x3, _⟩ := H2.out.1
          have hz1 : (m : Int) < (ls.length : Int) := by omega
          have H3 := Lib.hid ((H2.out.only (fun ⟨a, b, _⟩ => ⟨a, b, trivial⟩) (fun ⟨a, b, _⟩ => ⟨a, b, trivial⟩) : Held w wr [(w.heap.size, 0, .slice An ns.length cn), (w.heap.size, 1, .slice (some ⟨b2, o2, none⟩) ls.length cl)]).new2 wr.heap.size rfl [.int .i64 lx, .int .i64 ly] 151)
          obtain ⟨y0, _, y2, _, _⟩ := H2.out.2.1
          cases lk
          · go_wp2_with fail
            refine (HLO.out _ (HN.out.step H3.out.below)).mono ?_
            rintro e wH4 ⟨rfl, hb⟩
            have H4 := Lib.hid ((H3.out).step hb); clear hb
            try clear x0 x1 x2 x3
            obtain ⟨x0, x1, x2, x3, _⟩ := H4.out.1
            go_wp2_with fail
            go_ret
            exact ⟨ret_bool (HNL.out trivial).symm, H4.out.below⟩
          · go_wp2_with fail
            refine (HLO.out _ (HN.out.step H3.out.below)).mono ?_
            rintro e wH4 ⟨rfl, hb⟩
            have H4 := Lib.hid ((H3.out).step hb); clear hb
            try clear x0 x1 x2 x3
            obtain ⟨x0, x1, x2, x3, _⟩ := H4.out.1
            go_wp2_with fail
            generalize wr.heap.size = B at *
            clear x0 x1 x2 x3
            go_loopw [7] (fun i wr => ∃ i' : Nat, i' ≤ m ∧ i = .int .i64 i' ∧ (∀ j, j < i' → crossB ns (atN ls j) ⟨lx, ly⟩ = false) ∧ Held w wr [(B, 0, .int .i64 lx), (B, 1, .int .i64 ly), (w.heap.size, 0, .slice An ns.length cn), (w.heap.size, 1, .slice (some ⟨b2, o2, none⟩) ls.length cl)]) (fun i _ => m - (intOf i).toNat)
            case atStart => exact ⟨0, Nat.zero_le _, rfl, fun j hj => by omega, H4.out⟩
            case round =>
              clear H3 H4
              obtain ⟨i, hi, rfl, hne, hh⟩ := hrel
              have HNE := Lib.hid hne; clear hne
              have H4 := Lib.hid hh; clear hh
              obtain ⟨x0, x1, x2, x3, _⟩ := H4.out.1
              by_cases him : i < m
              · obtain ⟨b', o', c'', he, hbl', hcs⟩ := prs_at2 (HL.out.step H4.out.below) (k := i) (by omega)
                injection he with he1 he2 he3
                injection he1 with he1
                injection he1 with he4 he5 he6
                subst he4
                subst he5
                clear he2 he3 he6
                have H5 := Lib.hid (held_more H4.out (P1_cs hcs (k := i) (by omega)) (P1_bs (k := i) hbl'))
                unfold P1 at H5
                clear hcs
                have HX := Lib.hid (HCR.out i)
                have HXN := Lib.hid (HNC.out i him)
                have HSN := Lib.hid (fun (h : crossB ns (atN ls i) ⟨lx, ly⟩ = false) => (fun j (hj : j < i + 1) => (if e : j = i then e ▸ h else HNE.out j (by omega)) : ∀ j, j < i + 1 → crossB ns (atN ls j) ⟨lx, ly⟩ = false))
                generalize crossB ns (atN ls i) ⟨lx, ly⟩ = d at *
                generalize atN ls i = li at *
                obtain ⟨ix, iy⟩ := li
                simp only at H5 HX
                clear x0 x1 x2 x3
                have hz3 : (i : Int) < (ls.length : Int) := by omega
                have hz4 : (0 : Int) ≤ i := by omega
                cases d
                · obtain ⟨x0, x1, x2, x3, x4, x5, _⟩ := H5.out.1
                  go_wp2_with fail
                  refine regionD (S := fun W => Held _ W [(B, 0, .int .i64 (lx)), (B, 1, .int .i64 (ly)), (w.heap.size, 0, .slice An ns.length cn), (w.heap.size, 1, .slice (some ⟨b2, o2, none⟩) ls.length cl), (b2, o2 + i * 2, .int .i64 (ix)), (b2, o2 + i * 2 + 1, .int .i64 (iy))]) (by kernel_rfl) H5.out.drew ?_
                  iterate 9 (refine takeT (v := ?_) rfl (by kernel_rfl) (by kernel_rfl) (by kernel_rfl) ?_ ?_; rotate_left; (first | (refine Or.inr ⟨by rfl, ?_⟩; with_reducible rfl) | (refine Or.inl ⟨by rfl, fun W hS => detRes_value (w' := W) ?_ hS⟩; obtain ⟨x0, x1, x2, x3, x4, x5, _⟩ := hS.1; go_simp; first | done | with_reducible rfl) | (refine Or.inl ⟨by rfl, fun W hS => ?_⟩; refine detRes_call (w' := W) (f := ?_) (args := ?_) ?_ ?_; rotate_left 2; (go_simp; (refine ⟨?_, ?_⟩ <;> with_reducible rfl)); (first | (with_reducible refine (HX.out _ (HN.out.step hS.below)).mono ?_) | fail); (first | (rintro e wn ⟨rfl, hb⟩; refine ⟨?_, hS.step hb⟩; with_reducible rfl) | (rintro e wn ⟨rfl, rfl⟩; refine ⟨?_, hS⟩; with_reducible rfl) | fail)) | fail); (simp only [Act.put, List.setIfInBounds_toArray, List.set_cons_zero, List.set_cons_succ]))
                  refine doneD (by kernel_rfl) fun wH6 HS => ?_
                  have H6 := Lib.hid HS; clear HS
                  try clear x0 x1 x2 x3 x4 x5
                  obtain ⟨x0, x1, x2, x3, x4, x5, _⟩ := H6.out.1
                  go_wp2_with fail
                  exact ⟨⟨i + 1, by omega, by go_num, HSN.out trivial, H6.out.only (fun ⟨a, b, c, d, _⟩ => ⟨a, b, c, d, trivial⟩) (fun ⟨a, b, c, d, _⟩ => ⟨a, b, c, d, trivial⟩)⟩, by simp [intOf]; omega⟩
                · obtain ⟨x0, x1, x2, x3, x4, x5, _⟩ := H5.out.1
                  go_wp2_with fail
                  refine regionD (S := fun W => Held _ W [(B, 0, .int .i64 (lx)), (B, 1, .int .i64 (ly)), (w.heap.size, 0, .slice An ns.length cn), (w.heap.size, 1, .slice (some ⟨b2, o2, none⟩) ls.length cl), (b2, o2 + i * 2, .int .i64 (ix)), (b2, o2 + i * 2 + 1, .int .i64 (iy))]) (by kernel_rfl) H5.out.drew ?_
                  iterate 9 (refine takeT (v := ?_) rfl (by kernel_rfl) (by kernel_rfl) (by kernel_rfl) ?_ ?_; rotate_left; (first | (refine Or.inr ⟨by rfl, ?_⟩; with_reducible rfl) | (refine Or.inl ⟨by rfl, fun W hS => detRes_value (w' := W) ?_ hS⟩; obtain ⟨x0, x1, x2, x3, x4, x5, _⟩ := hS.1; go_simp; first | done | with_reducible rfl) | (refine Or.inl ⟨by rfl, fun W hS => ?_⟩; refine detRes_call (w' := W) (f := ?_) (args := ?_) ?_ ?_; rotate_left 2; (go_simp; (refine ⟨?_, ?_⟩ <;> with_reducible rfl)); (first | (with_reducible refine (HX.out _ (HN.out.step hS.below)).mono ?_) | fail); (first | (rintro e wn ⟨rfl, hb⟩; refine ⟨?_, hS.step hb⟩; with_reducible rfl) | (rintro e wn ⟨rfl, rfl⟩; refine ⟨?_, hS⟩; with_reducible rfl) | fail)) | fail); (simp only [Act.put, List.setIfInBounds_toArray, List.set_cons_zero, List.set_cons_succ]))
                  refine doneD (by kernel_rfl) fun wH6 HS => ?_
                  have H6 := Lib.hid HS; clear HS
                  try clear x0 x1 x2 x3 x4 x5
                  obtain ⟨x0, x1, x2, x3, x4, x5, _⟩ := H6.out.1
                  go_wp2_with fail
                  go_ret
                  exact ⟨ret_bool (HXN.out trivial).symm, H6.out.below⟩
              · obtain rfl : i = m := by omega
                clear hi him
                go_wp2_with fail
                clear x0 x1 x2 x3
                go_loopw [8] (fun i wr => ∃ i' : Nat, i' ≤ ns.length ∧ i = .int .i64 i' ∧ (∀ j : Nat, j < i' → (j : Int) ≠ lx → (j : Int) ≠ ly → onLeadB ns ⟨lx, ly⟩ (atN ns j) = false) ∧ Held w wr [(B, 0, .int .i64 lx), (B, 1, .int .i64 ly), (w.heap.size, 0, .slice An ns.length cn), (w.heap.size, 1, .slice (some ⟨b2, o2, none⟩) ls.length cl)]) (fun i _ => ns.length - (intOf i).toNat)
                case atStart => exact ⟨0, Nat.zero_le _, rfl, fun j hj => by omega, H4.out⟩
                case round =>
                  clear H4
                  obtain ⟨p, hp, rfl, hno, hh⟩ := hrel
                  have HNN := Lib.hid hno; clear hno
                  have H4 := Lib.hid hh; clear hh
                  obtain ⟨x0, x1, x2, x3, _⟩ := H4.out.1
                  by_cases hpn : p < ns.length
                  · obtain ⟨b', o', c'', he, hbl', hcs⟩ := prs_at2 (HN.out.step H4.out.below) (k := p) (by omega)
                    injection he with he1 he2 he3
                    subst he1
                    clear he2 he3
                    have H5 := Lib.hid (held_more H4.out (P1_cs hcs (k := p) (by omega)) (P1_bs (k := p) hbl'))
                    unfold P1 at H5
                    clear hcs
                    have HX := Lib.hid (HON.out p)
                    have HXN := Lib.hid (HNO.out p hpn)
                    have HSN := Lib.hid (fun (h : (p : Int) ≠ lx → (p : Int) ≠ ly → onLeadB ns ⟨lx, ly⟩ (atN ns p) = false) => (fun j (hj : j < p + 1) => (if e : j = p then e ▸ h else HNN.out j (by omega)) : ∀ j : Nat, j < p + 1 → (j : Int) ≠ lx → (j : Int) ≠ ly → onLeadB ns ⟨lx, ly⟩ (atN ns j) = false))
                    generalize onLeadB ns ⟨lx, ly⟩ (atN ns p) = d at *
                    generalize atN ns p = np at *
                    obtain ⟨ix, iy⟩ := np
                    simp only at H5 HX
                    clear x0 x1 x2 x3
                    have hz3 : (p : Int) < (ns.length : Int) := by omega
                    have hz4 : (0 : Int) ≤ p := by omega
                    by_cases e1 : (p : Int) = lx
                    · have HD := Lib.hid (fun (h : (p : Int) ≠ lx) (_ : (p : Int) ≠ ly) => (absurd e1 h : d = false))
                      have g1 : ((p : Int) == lx) = true := by simpa using e1
                      have g2 : ((p : Int) != lx) = false := by simpa using e1
                      have E1 := Lib.hid e1; clear e1
                      obtain ⟨x0, x1, x2, x3, x4, x5, _⟩ := H5.out.1
                      go_wp2_with fail
                      refine regionD (S := fun W => Held _ W [(B, 0, .int .i64 (lx)), (B, 1, .int .i64 (ly)), (w.heap.size, 0, .slice (some ⟨b', o', none⟩) ns.length cn), (w.heap.size, 1, .slice (some ⟨b2, o2, none⟩) ls.length cl), (b', o' + p * 2, .int .i64 (ix)), (b', o' + p * 2 + 1, .int .i64 (iy))]) (by kernel_rfl) H5.out.drew ?_
                      iterate 21 (refine takeT (v := ?_) rfl (by kernel_rfl) (by kernel_rfl) (by kernel_rfl) ?_ ?_; rotate_left; (first | (refine Or.inr ⟨by rfl, ?_⟩; with_reducible rfl) | (refine Or.inl ⟨by rfl, fun W hS => detRes_value (w' := W) ?_ hS⟩; obtain ⟨x0, x1, x2, x3, x4, x5, _⟩ := hS.1; go_simp; first | done | with_reducible rfl) | (refine Or.inl ⟨by rfl, fun W hS => ?_⟩; refine detRes_call (w' := W) (f := ?_) (args := ?_) ?_ ?_; rotate_left 2; (go_simp; (refine ⟨?_, ?_⟩ <;> with_reducible rfl)); (first | (with_reducible refine (HX.out _ (HN.out.step hS.below)).mono ?_) | fail); (first | (rintro e wn ⟨rfl, hb⟩; refine ⟨?_, hS.step hb⟩; with_reducible rfl) | (rintro e wn ⟨rfl, rfl⟩; refine ⟨?_, hS⟩; with_reducible rfl) | fail)) | fail); (simp only [Act.put, List.setIfInBounds_toArray, List.set_cons_zero, List.set_cons_succ]))
                      refine doneD (by kernel_rfl) fun wH6 HS => ?_
                      have H6 := Lib.hid HS; clear HS
                      try clear x0 x1 x2 x3 x4 x5
                      obtain ⟨x0, x1, x2, x3, x4, x5, _⟩ := H6.out.1
                      go_wp2_with fail
                      exact ⟨⟨p + 1, by omega, by go_num, HSN.out HD.out, H6.out.only (fun ⟨a, b, c, d, _⟩ => ⟨a, b, c, d, trivial⟩) (fun ⟨a, b, c, d, _⟩ => ⟨a, b, c, d, trivial⟩)⟩, by simp [intOf]; omega⟩
                    have g1 : ((p : Int) == lx) = false := by simpa using e1
                    have g2 : ((p : Int) != lx) = true := by simpa using e1
                    have E1 := Lib.hid e1; clear e1
                    by_cases e2 : (p : Int) = ly
                    · have HD := Lib.hid (fun (_ : (p : Int) ≠ lx) (h : (p : Int) ≠ ly) => (absurd e2 h : d = false))
                      have g3 : ((p : Int) == ly) = true := by simpa using e2
                      have g4 : ((p : Int) != ly) = false := by simpa using e2
                      have E2 := Lib.hid e2; clear e2
                      obtain ⟨x0, x1, x2, x3, x4, x5, _⟩ := H5.out.1
                      go_wp2_with fail
                      refine regionD (S := fun W => Held _ W [(B, 0, .int .i64 (lx)), (B, 1, .int .i64 (ly)), (w.heap.size, 0, .slice (some ⟨b', o', none⟩) ns.length cn), (w.heap.size, 1, .slice (some ⟨b2, o2, none⟩) ls.length cl), (b', o' + p * 2, .int .i64 (ix)), (b', o' + p * 2 + 1, .int .i64 (iy))]) (by kernel_rfl) H5.out.drew ?_
                      iterate 21 (refine takeT (v := ?_) rfl (by kernel_rfl) (by kernel_rfl) (by kernel_rfl) ?_ ?_; rotate_left; (first | (refine Or.inr ⟨by rfl, ?_⟩; with_reducible rfl) | (refine Or.inl ⟨by rfl, fun W hS => detRes_value (w' := W) ?_ hS⟩; obtain ⟨x0, x1, x2, x3, x4, x5, _⟩ := hS.1; go_simp; first | done | with_reducible rfl) | (refine Or.inl ⟨by rfl, fun W hS => ?_⟩; refine detRes_call (w' := W) (f := ?_) (args := ?_) ?_ ?_; rotate_left 2; (go_simp; (refine ⟨?_, ?_⟩ <;> with_reducible rfl)); (first | (with_reducible refine (HX.out _ (HN.out.step hS.below)).mono ?_) | fail); (first | (rintro e wn ⟨rfl, hb⟩; refine ⟨?_, hS.step hb⟩; with_reducible rfl) | (rintro e wn ⟨rfl, rfl⟩; refine ⟨?_, hS⟩; with_reducible rfl) | fail)) | fail); (simp only [Act.put, List.setIfInBounds_toArray, List.set_cons_zero, List.set_cons_succ]))
                      refine doneD (by kernel_rfl) fun wH6 HS => ?_
                      have H6 := Lib.hid HS; clear HS
                      try clear x0 x1 x2 x3 x4 x5
                      obtain ⟨x0, x1, x2, x3, x4, x5, _⟩ := H6.out.1
                      go_wp2_with fail
                      exact ⟨⟨p + 1, by omega, by go_num, HSN.out HD.out, H6.out.only (fun ⟨a, b, c, d, _⟩ => ⟨a, b, c, d, trivial⟩) (fun ⟨a, b, c, d, _⟩ => ⟨a, b, c, d, trivial⟩)⟩, by simp [intOf]; omega⟩
                    have g3 : ((p : Int) == ly) = false := by simpa using e2
                    have g4 : ((p : Int) != ly) = true := by simpa using e2
                    have E2 := Lib.hid e2; clear e2
                    cases d
                    · have HD := Lib.hid (fun (_ : (p : Int) ≠ lx) (_ : (p : Int) ≠ ly) => (rfl : false = false))
                      obtain ⟨x0, x1, x2, x3, x4, x5, _⟩ := H5.out.1
                      go_wp2_with fail
                      refine regionD (S := fun W => Held _ W [(B, 0, .int .i64 (lx)), (B, 1, .int .i64 (ly)), (w.heap.size, 0, .slice (some ⟨b', o', none⟩) ns.length cn), (w.heap.size, 1, .slice (some ⟨b2, o2, none⟩) ls.length cl), (b', o' + p * 2, .int .i64 (ix)), (b', o' + p * 2 + 1, .int .i64 (iy))]) (by kernel_rfl) H5.out.drew ?_
                      iterate 21 (refine takeT (v := ?_) rfl (by kernel_rfl) (by kernel_rfl) (by kernel_rfl) ?_ ?_; rotate_left; (first | (refine Or.inr ⟨by rfl, ?_⟩; with_reducible rfl) | (refine Or.inl ⟨by rfl, fun W hS => detRes_value (w' := W) ?_ hS⟩; obtain ⟨x0, x1, x2, x3, x4, x5, _⟩ := hS.1; go_simp; first | done | with_reducible rfl) | (refine Or.inl ⟨by rfl, fun W hS => ?_⟩; refine detRes_call (w' := W) (f := ?_) (args := ?_) ?_ ?_; rotate_left 2; (go_simp; (refine ⟨?_, ?_⟩ <;> with_reducible rfl)); (first | (with_reducible refine (HX.out _ (HN.out.step hS.below)).mono ?_) | fail); (first | (rintro e wn ⟨rfl, hb⟩; refine ⟨?_, hS.step hb⟩; with_reducible rfl) | (rintro e wn ⟨rfl, rfl⟩; refine ⟨?_, hS⟩; with_reducible rfl) | fail)) | fail); (simp only [Act.put, List.setIfInBounds_toArray, List.set_cons_zero, List.set_cons_succ]))
                      refine doneD (by kernel_rfl) fun wH6 HS => ?_
                      have H6 := Lib.hid HS; clear HS
                      try clear x0 x1 x2 x3 x4 x5
                      obtain ⟨x0, x1, x2, x3, x4, x5, _⟩ := H6.out.1
                      go_wp2_with fail
                      exact ⟨⟨p + 1, by omega, by go_num, HSN.out HD.out, H6.out.only (fun ⟨a, b, c, d, _⟩ => ⟨a, b, c, d, trivial⟩) (fun ⟨a, b, c, d, _⟩ => ⟨a, b, c, d, trivial⟩)⟩, by simp [intOf]; omega⟩
                    · obtain ⟨x0, x1, x2, x3, x4, x5, _⟩ := H5.out.1
                      go_wp2_with fail
                      refine regionD (S := fun W => Held _ W [(B, 0, .int .i64 (lx)), (B, 1, .int .i64 (ly)), (w.heap.size, 0, .slice (some ⟨b', o', none⟩) ns.length cn), (w.heap.size, 1, .slice (some ⟨b2, o2, none⟩) ls.length cl), (b', o' + p * 2, .int .i64 (ix)), (b', o' + p * 2 + 1, .int .i64 (iy))]) (by kernel_rfl) H5.out.drew ?_
                      iterate 21 (refine takeT (v := ?_) rfl (by kernel_rfl) (by kernel_rfl) (by kernel_rfl) ?_ ?_; rotate_left; (first | (refine Or.inr ⟨by rfl, ?_⟩; with_reducible rfl) | (refine Or.inl ⟨by rfl, fun W hS => detRes_value (w' := W) ?_ hS⟩; obtain ⟨x0, x1, x2, x3, x4, x5, _⟩ := hS.1; go_simp; first | done | with_reducible rfl) | (refine Or.inl ⟨by rfl, fun W hS => ?_⟩; refine detRes_call (w' := W) (f := ?_) (args := ?_) ?_ ?_; rotate_left 2; (go_simp; (refine ⟨?_, ?_⟩ <;> with_reducible rfl)); (first | (with_reducible refine (HX.out _ (HN.out.step hS.below)).mono ?_) | fail); (first | (rintro e wn ⟨rfl, hb⟩; refine ⟨?_, hS.step hb⟩; with_reducible rfl) | (rintro e wn ⟨rfl, rfl⟩; refine ⟨?_, hS⟩; with_reducible rfl) | fail)) | fail); (simp only [Act.put, List.setIfInBounds_toArray, List.set_cons_zero, List.set_cons_succ]))
                      refine doneD (by kernel_rfl) fun wH6 HS => ?_
                      have H6 := Lib.hid HS; clear HS
                      try clear x0 x1 x2 x3 x4 x5
                      obtain ⟨x0, x1, x2, x3, x4, x5, _⟩ := H6.out.1
                      go_wp2_with fail
                      go_ret
                      exact ⟨ret_bool (HXN.out E1.out E2.out trivial).symm, H6.out.below⟩
                  · obtain rfl : p = ns.length := by omega
                    go_wp2_with fail
                    exact ⟨⟨i + 1, by omega, by go_num, HSU.out trivial (fun j hj => HNE.out j hj) (fun j hj hx hy => HNN.out j hj hx hy), H4.out.only (fun ⟨_, _, a, b, _⟩ => ⟨a, b, trivial⟩) (fun ⟨_, _, a, b, _⟩ => ⟨a, b, trivial⟩)⟩, by simp [intOf]; omega⟩
        · obtain rfl : m = ls.length := by omega
          go_wp2_with fail
          go_ret
          exact ⟨ret_bool (winB_yes ⟨⟨⟨h1a, h1b⟩, h2⟩, HO.out, HLK.out⟩).symm, H1.out.below⟩
end Go.Proofs.YtepacoacalhdcaaGreat

namespace Go.Proofs.YtepacoacalhdcaaGreat
open Go.RowKit
set_option linter.unusedVariables false
set_option linter.unusedSimpArgs false

theorem implOnBoard (n : Nd) (w : World) :
    Calls Tryz.prog 203 #[n.val] w (BoolIs (okB n) w) := by
  obtain ⟨x, y⟩ := n
  have hr : okB ⟨x, y⟩ = decide ((0 ≤ x ∧ x ≤ 20) ∧ (0 ≤ y ∧ y ≤ 20)) := by rw [Bool.eq_iff_iff, okB_iff]; simp
  unfold Nd.val
  generalize okB ⟨x, y⟩ = r at *
  have HR := Lib.hid hr; clear hr
  go_enter Tryz.func203, Tryz.ntmps203
  go_wp2
  all_goals
    go_ret
    exact ⟨ret_bool (by rw [HR.out, Bool.eq_iff_iff]; simp; omega), (Below.refl _ _).alloc (Nat.le_refl _) _⟩

theorem implAreOn (xs : List Nd) (g off cap : Nat) (w : World) (hlen : xs.length ≤ 1000) (hg : g < w.heap.size)
    (hc : ∀ k, k < xs.length → w.cell? ⟨g, off + k * 2, none⟩ = some (.int .i64 (xs.getD k ⟨0, 0⟩).x) ∧ w.cell? ⟨g, off + k * 2 + 1, none⟩ = some (.int .i64 (xs.getD k ⟨0, 0⟩).y)) :
    Calls Tryz.prog 186 #[.slice (some ⟨g, off, none⟩) xs.length cap] w (BoolIs (xs.all okB) w) := by
  have HC := Lib.hid hc; clear hc
  generalize hr : xs.all okB = r
  have HR := Lib.hid hr; clear hr
  go_enter Tryz.func186, Tryz.ntmps186
  go_wp2_with fail
  go_loopw [4, 7, 9, 10, 11, 12, 13] (fun _ i _ _ _ _ _ wr => ∃ k : Nat, k ≤ xs.length ∧ i = .int .i64 k ∧ (xs.take k).all okB = true ∧ Below w.heap.size w wr) (fun _ i _ _ _ _ _ _ => xs.length - (intOf i).toNat)
  case atStart => exact ⟨0, Nat.zero_le _, rfl, rfl, Below.refl _ _⟩
  case round =>
    obtain ⟨k, hk, rfl, ha, hb⟩ := hrel
    have HA := Lib.hid ha; clear ha
    by_cases hlt : k < xs.length
    · obtain ⟨c0, c1⟩ := HC.out k hlt
      have d0 : wr.cell? ⟨g, off + k * 2, none⟩ = _ := (hb.cell (p := ⟨g, _, none⟩) hg).trans c0
      have d1 : wr.cell? ⟨g, off + k * 2 + 1, none⟩ = _ := (hb.cell (p := ⟨g, _, none⟩) hg).trans c1
      clear c0 c1
      have hs := hb.size
      have HB := Lib.hid hb; clear hb
      have ht : xs.take (k + 1) = xs.take k ++ [xs.getD k ⟨0, 0⟩] := by
        rw [List.take_succ_eq_append_getElem hlt]; simp [List.getD, hlt]
      have HT := Lib.hid ht; clear ht
      have hm : xs.getD k ⟨0, 0⟩ ∈ xs := by simp [List.getD, hlt]
      generalize xs.getD k ⟨0, 0⟩ = n at *
      have HI := Lib.hid (implOnBoard n)
      unfold Nd.val at HI
      by_cases hn : okB n = true
      · rw [hn] at HI
        have HN := Lib.hid hn; clear hn
        go_wp2_with fail
        refine (HI.out _).mono ?_
        rintro e w1 ⟨rfl, hb1⟩
        have HB1 := Lib.hid ((HB.out.alloc hs _).trans (hb1.mono (by simp; omega))); clear hb1
        go_wp2_with fail
        go_roundw
        case rel => exact ⟨k + 1, by omega, by go_num, by rw [HT.out, List.all_append, HA.out]; simp [HN.out], HB1.out⟩
        case measure => simp [intOf]; omega
      · have hn' : okB n = false := by simpa using hn
        rw [hn'] at HI
        have HN := Lib.hid hn'; clear hn hn'
        go_wp2_with fail
        refine (HI.out _).mono ?_
        rintro e w1 ⟨rfl, hb1⟩
        have HB1 := Lib.hid ((HB.out.alloc hs _).trans (hb1.mono (by simp; omega))); clear hb1
        go_wp2_with fail
        go_ret
        refine ⟨ret_bool ?_, HB1.out⟩
        rw [← HR.out]
        exact (List.all_eq_false.2 ⟨n, hm, by simp [HN.out]⟩).symm
    · go_wp2_with fail
      go_ret
      refine ⟨ret_bool ?_, hb⟩
      have : k = xs.length := by omega
      subst this
      rw [← HR.out, ← HA.out, List.take_length]

def WayIs (a b : Nd) (w : World) (e : Ending) (w' : World) : Prop := e = .returned (.tuple #[.int .i64 (b.x - a.x), .int .i64 (b.y - a.y)]) ∧ Below w.heap.size w w'

theorem implWay (a b : Nd) (w : World) (ha : okB a = true) (hb : okB b = true) :
    Calls Tryz.prog 187 #[a.val, b.val] w (WayIs a b w) := by
  obtain ⟨ax, ay⟩ := a
  obtain ⟨bx, by'⟩ := b
  rw [okB_iff] at ha hb
  obtain ⟨⟨a1, a2⟩, a3, a4⟩ := ha
  obtain ⟨⟨b1, b2⟩, b3, b4⟩ := hb
  simp only at a1 a2 a3 a4 b1 b2 b3 b4
  unfold Nd.val
  have e1 : IntKind.i64.wrap (bx - ax) = bx - ax := IntWalk.i64_in _ (by omega)
  have e2 : IntKind.i64.wrap (by' - ay) = by' - ay := IntWalk.i64_in _ (by omega)
  go_enter Tryz.func187, Tryz.ntmps187
  go_wp2_with fail
  go_quiet (fail)
  go_wp2_with fail
  go_ret2
  exact ⟨rfl, below_drewN (below2 w _ _) _⟩

theorem implInBox (n a b : Nd) (w : World) :
    Calls Tryz.prog 238 #[n.val, a.val, b.val] w (BoolIs (inB n.x (min a.x b.x) (max a.x b.x) && inB n.y (min a.y b.y) (max a.y b.y)) w) := by
  obtain ⟨x, y⟩ := n
  obtain ⟨ax, ay⟩ := a
  obtain ⟨bx, by'⟩ := b
  unfold Nd.val
  have e1 := min_if ax bx
  have e2 := max_if ax bx
  have e3 := min_if ay by'
  have e4 := max_if ay by'
  simp only
  generalize min ax bx = m1 at *
  generalize max ax bx = m2 at *
  generalize min ay by' = m3 at *
  generalize max ay by' = m4 at *
  generalize hr : (inB x m1 m2 && inB y m3 m4) = r
  have HR := Lib.hid hr; clear hr
  go_enter Tryz.func238, Tryz.ntmps238
  go_wp2
  all_goals
    go_ret
    exact ⟨ret_bool (by rw [← HR.out, Bool.eq_iff_iff]; simp [inB]; omega), below3 w _ _ _⟩

theorem implAre3 (a b c : Nd) (g : Nat) (T : TypeId) (W : World) (hg : g = W.heap.size) :
    Calls Tryz.prog 186 #[.slice (some ⟨g, 0, none⟩) 3 3] (W.alloc (.cells #[.int .i64 a.x, .int .i64 a.y, .int .i64 b.x, .int .i64 b.y, .int .i64 c.x, .int .i64 c.y] T)) (BoolIs (okB a && (okB b && okB c)) (W.alloc (.cells #[.int .i64 a.x, .int .i64 a.y, .int .i64 b.x, .int .i64 b.y, .int .i64 c.x, .int .i64 c.y] T))) := by
  subst hg
  have h := heap_alloc_new W (.cells #[.int .i64 a.x, .int .i64 a.y, .int .i64 b.x, .int .i64 b.y, .int .i64 c.x, .int .i64 c.y] T)
  generalize hw : W.alloc (.cells #[.int .i64 a.x, .int .i64 a.y, .int .i64 b.x, .int .i64 b.y, .int .i64 c.x, .int .i64 c.y] T) = w at *
  generalize W.heap.size = g at *
  have h1 := implAreOn [a, b, c] g 0 3 w (by simp) (lt_of_block h) (fun k hk => by
    have hk' : k = 0 ∨ k = 1 ∨ k = 2 := by simp at hk; omega
    rcases hk' with rfl | rfl | rfl <;> simp [World.cell?, h])
  have e : [a, b, c].all okB = (okB a && (okB b && okB c)) := by simp
  rw [e] at h1
  exact h1

theorem implAre2 (a b : Nd) (g : Nat) (T : TypeId) (W : World) (hg : g = W.heap.size) :
    Calls Tryz.prog 186 #[.slice (some ⟨g, 0, none⟩) 2 2] (W.alloc (.cells #[.int .i64 a.x, .int .i64 a.y, .int .i64 b.x, .int .i64 b.y] T)) (BoolIs (okB a && okB b) (W.alloc (.cells #[.int .i64 a.x, .int .i64 a.y, .int .i64 b.x, .int .i64 b.y] T))) := by
  subst hg
  have h := heap_alloc_new W (.cells #[.int .i64 a.x, .int .i64 a.y, .int .i64 b.x, .int .i64 b.y] T)
  generalize hw : W.alloc (.cells #[.int .i64 a.x, .int .i64 a.y, .int .i64 b.x, .int .i64 b.y] T) = w at *
  generalize W.heap.size = g at *
  have h1 := implAreOn [a, b] g 0 2 w (by simp) (lt_of_block h) (fun k hk => by
    have hk' : k = 0 ∨ k = 1 := by simp at hk; omega
    rcases hk' with rfl | rfl <;> simp [World.cell?, h])
  have e : [a, b].all okB = (okB a && okB b) := by simp
  rw [e] at h1
  exact h1

theorem implTurnOf (a b c : Nd) (w : World) :
    Calls Tryz.prog 236 #[a.val, b.val, c.val] w (IntIs (turnOf a b c) w) := by
  have hr : turnOf a b c = if okB a && okB b && okB c then turnI a b c else 0 := rfl
  rw [Bool.and_assoc] at hr
  have HR := Lib.hid hr; clear hr
  have HA := Lib.hid (fun g T W => implAre3 a b c g T W)
  have H0 := Lib.hid (held3 w a b c 115)
  generalize turnOf a b c = r at *
  by_cases hk : (okB a && (okB b && okB c)) = true
  · have hk' := hk
    simp only [Bool.and_eq_true] at hk'
    obtain ⟨ka, kb, kc⟩ := hk'
    have HB := Lib.hid (fun w => implWay a b w ka kb)
    have HC := Lib.hid (fun w => implWay a c w ka kc)
    rw [hk] at HA HR
    clear hk
    rw [okB_iff] at ka kb kc
    unfold turnI at HR
    obtain ⟨⟨a1, a2⟩, a3, a4⟩ := ka
    obtain ⟨⟨b1, b2⟩, b3, b4⟩ := kb
    obtain ⟨⟨c1, c2⟩, c3, c4⟩ := kc
    obtain ⟨ax, ay⟩ := a
    obtain ⟨bx, by'⟩ := b
    obtain ⟨cx, cy⟩ := c
    simp only at a1 a2 a3 a4 b1 b2 b3 b4 c1 c2 c3 c4 HR HA H0
    unfold Nd.val at HB HC ⊢
    unfold WayIs at HB HC
    simp only at HB HC
    obtain ⟨p1, p2⟩ := prod_bd (p := bx - ax) (q := cy - ay) 20 (by omega) (by omega) (by omega) (by omega)
    obtain ⟨q1, q2⟩ := prod_bd (p := by' - ay) (q := cx - ax) 20 (by omega) (by omega) (by omega) (by omega)
    go_enter Tryz.func236, Tryz.ntmps236
    go_wp2_with fail
    refine (HA.out _ _ _ (by simp)).mono ?_
    rintro e wH1 ⟨rfl, hb⟩
    have H1 := Lib.hid ((H0.out.alloc _).step hb); clear hb
    try clear x0 x1 x2 x3 x4 x5
    obtain ⟨x0, x1, x2, x3, x4, x5, _⟩ := H1.out.1
    go_wp2_with fail
    refine (HB.out _).mono ?_
    rintro e wH2 ⟨rfl, hb⟩
    have H2 := Lib.hid ((H1.out).step hb); clear hb
    try clear x0 x1 x2 x3 x4 x5
    obtain ⟨x0, x1, x2, x3, x4, x5, _⟩ := H2.out.1
    go_wp2_with fail
    refine (HC.out _).mono ?_
    rintro e wH3 ⟨rfl, hb⟩
    have H3 := Lib.hid ((H2.out).step hb); clear hb
    try clear x0 x1 x2 x3 x4 x5
    obtain ⟨x0, x1, x2, x3, x4, x5, _⟩ := H3.out.1
    go_wp2_with fail
    go_ret
    exact ⟨ret_int (by rw [HR.out]; simp), H3.out.below⟩
  · have hk' : (okB a && (okB b && okB c)) = false := by simpa using hk
    clear hk
    rw [hk'] at HA HR
    clear hk'
    obtain ⟨ax, ay⟩ := a
    obtain ⟨bx, by'⟩ := b
    obtain ⟨cx, cy⟩ := c
    unfold Nd.val
    simp only at HA H0
    go_enter Tryz.func236, Tryz.ntmps236
    go_wp2_with fail
    refine (HA.out _ _ _ (by simp)).mono ?_
    rintro e wH1 ⟨rfl, hb⟩
    have H1 := Lib.hid ((H0.out.alloc _).step hb); clear hb
    try clear x0 x1 x2 x3 x4 x5
    obtain ⟨x0, x1, x2, x3, x4, x5, _⟩ := H1.out.1
    go_wp2_with fail
    go_ret
    exact ⟨ret_int (by rw [HR.out]; rfl), H1.out.below⟩

theorem implLen (a b : Nd) (w : World) :
    Calls Tryz.prog 153 #[a.val, b.val] w (IntIs (lenSq a b) w) := by
  have hr : lenSq a b = if okB a && okB b then (b.x - a.x) * (b.x - a.x) + (b.y - a.y) * (b.y - a.y) else -1 := rfl
  have HR := Lib.hid hr; clear hr
  have HA := Lib.hid (fun g T w => implAre2 a b g T w)
  have H0 := Lib.hid (held2 w a b 115 115)
  generalize lenSq a b = r at *
  by_cases hk : (okB a && okB b) = true
  · have hk' := hk
    simp only [Bool.and_eq_true] at hk'
    obtain ⟨ka, kb⟩ := hk'
    have HB := Lib.hid (fun w => implWay a b w ka kb)
    rw [hk] at HA HR
    clear hk
    rw [okB_iff] at ka kb
    obtain ⟨⟨a1, a2⟩, a3, a4⟩ := ka
    obtain ⟨⟨b1, b2⟩, b3, b4⟩ := kb
    obtain ⟨ax, ay⟩ := a
    obtain ⟨bx, by'⟩ := b
    simp only at a1 a2 a3 a4 b1 b2 b3 b4 HR HA H0
    unfold Nd.val at HB ⊢
    unfold WayIs at HB
    simp only at HB
    obtain ⟨p1, p2⟩ := prod_bd (p := bx - ax) (q := bx - ax) 20 (by omega) (by omega) (by omega) (by omega)
    obtain ⟨q1, q2⟩ := prod_bd (p := by' - ay) (q := by' - ay) 20 (by omega) (by omega) (by omega) (by omega)
    go_enter Tryz.func153, Tryz.ntmps153
    go_wp2_with fail
    refine (HA.out _ _ _ (by simp)).mono ?_
    rintro e wH1 ⟨rfl, hb⟩
    have H1 := Lib.hid ((H0.out.alloc _).step hb); clear hb
    try clear x0 x1 x2 x3
    obtain ⟨x0, x1, x2, x3, _⟩ := H1.out.1
    go_wp2_with fail
    refine (HB.out _).mono ?_
    rintro e wH2 ⟨rfl, hb⟩
    have H2 := Lib.hid ((H1.out).step hb); clear hb
    try clear x0 x1 x2 x3
    obtain ⟨x0, x1, x2, x3, _⟩ := H2.out.1
    go_wp2_with fail
    go_ret
    exact ⟨ret_int (by rw [HR.out]; simp), H2.out.below⟩
  · have hk' : (okB a && okB b) = false := by simpa using hk
    clear hk
    rw [hk'] at HA HR
    clear hk'
    obtain ⟨ax, ay⟩ := a
    obtain ⟨bx, by'⟩ := b
    unfold Nd.val
    simp only at HA H0
    go_enter Tryz.func153, Tryz.ntmps153
    go_wp2_with fail
    refine (HA.out _ _ _ (by simp)).mono ?_
    rintro e wH1 ⟨rfl, hb⟩
    have H1 := Lib.hid ((H0.out.alloc _).step hb); clear hb
    try clear x0 x1 x2 x3
    obtain ⟨x0, x1, x2, x3, _⟩ := H1.out.1
    go_wp2_with fail
    go_ret
    exact ⟨ret_int (by rw [HR.out]; rfl), H1.out.below⟩

theorem implHalf (a b : Nd) (w : World) :
    Calls Tryz.prog 235 #[a.val, b.val] w (IntIs (halfI a b) w) := by
  have hr : halfI a b = if a.y < b.y ∨ (b.y = a.y ∧ a.x < b.x) then 0 else 1 := rfl
  generalize halfI a b = r at *
  obtain ⟨ax, ay⟩ := a
  obtain ⟨bx, by'⟩ := b
  simp only at hr
  have HR := Lib.hid hr; clear hr
  unfold Nd.val
  go_enter Tryz.func235, Tryz.ntmps235
  go_wp2
  all_goals
    go_ret
    exact ⟨ret_int (by rw [HR.out]; first | (rw [if_pos (by omega)]; done) | (rw [if_neg (by omega)]; done)), below2 w _ _⟩

theorem implBetween (a b c : Nd) (w : World) :
    Calls Tryz.prog 230 #[a.val, b.val, c.val] w (BoolIs (betweenB a b c) w) := by
  have hr : betweenB a b c = ((okB a && (okB b && okB c)) && decide (a ≠ b) && decide (b ≠ c) && decide (a ≠ c) && decide (turnI a b c = 0) && (inB c.x (min a.x b.x) (max a.x b.x) && inB c.y (min a.y b.y) (max a.y b.y))) := by
    unfold betweenB; rw [Bool.and_assoc (okB a)]
  have HR := Lib.hid hr; clear hr
  have HA := Lib.hid (fun g T w => implAre3 a b c g T w)
  have H0 := Lib.hid (held3 w a b c 115)
  have HX := Lib.hid (implInBox c a b)
  have ht : (okB a && (okB b && okB c)) = true → turnOf a b c = turnI a b c := by
    intro h; rw [← Bool.and_assoc] at h; unfold turnOf; rw [if_pos h]
  have HT := Lib.hid (implTurnOf a b c)
  have q1 := eqNd a b
  have q2 := eqNd a c
  have q3 := eqNd b c
  have g1 : decide (a ≠ b) = !decide (a = b) := by simp
  have g2 : decide (a ≠ c) = !decide (a = c) := by simp
  have g3 : decide (b ≠ c) = !decide (b = c) := by simp
  rw [g1, g2, g3] at HR
  generalize betweenB a b c = r at *
  generalize (inB c.x (min a.x b.x) (max a.x b.x) && inB c.y (min a.y b.y) (max a.y b.y)) = box at *
  generalize (okB a && (okB b && okB c)) = k at *
  generalize decide (a = b) = d1 at *
  generalize decide (a = c) = d2 at *
  generalize decide (b = c) = d3 at *
  generalize turnI a b c = t at *
  clear g1 g2 g3
  have HTE := Lib.hid ht; clear ht
  generalize turnOf a b c = t' at *
  obtain ⟨ax, ay⟩ := a
  obtain ⟨bx, by'⟩ := b
  obtain ⟨cx, cy⟩ := c
  simp only at HA H0 q1 q2 q3
  unfold Nd.val at HX HT ⊢
  cases k
  · go_enter Tryz.func230, Tryz.ntmps230
    go_wp2_with fail
    refine (HA.out _ _ _ (by simp)).mono ?_
    rintro e wH1 ⟨rfl, hb⟩
    have H1 := Lib.hid ((H0.out.alloc _).step hb); clear hb
    try clear x0 x1 x2 x3 x4 x5
    obtain ⟨x0, x1, x2, x3, x4, x5, _⟩ := H1.out.1
    go_wp2_with fail
    go_ret
    exact ⟨ret_bool (by rw [HR.out]; simp), H1.out.below⟩
  cases d1
  case true =>
    go_enter Tryz.func230, Tryz.ntmps230
    go_wp2_with fail
    refine (HA.out _ _ _ (by simp)).mono ?_
    rintro e wH1 ⟨rfl, hb⟩
    have H1 := Lib.hid ((H0.out.alloc _).step hb); clear hb
    try clear x0 x1 x2 x3 x4 x5
    obtain ⟨x0, x1, x2, x3, x4, x5, _⟩ := H1.out.1
    go_wp2_with fail
    go_ret
    exact ⟨ret_bool (by rw [HR.out]; simp), H1.out.below⟩
  cases d2
  case true =>
    go_enter Tryz.func230, Tryz.ntmps230
    go_wp2_with fail
    refine (HA.out _ _ _ (by simp)).mono ?_
    rintro e wH1 ⟨rfl, hb⟩
    have H1 := Lib.hid ((H0.out.alloc _).step hb); clear hb
    try clear x0 x1 x2 x3 x4 x5
    obtain ⟨x0, x1, x2, x3, x4, x5, _⟩ := H1.out.1
    go_wp2_with fail
    go_ret
    exact ⟨ret_bool (by rw [HR.out]; simp), H1.out.below⟩
  cases d3
  case true =>
    go_enter Tryz.func230, Tryz.ntmps230
    go_wp2_with fail
    refine (HA.out _ _ _ (by simp)).mono ?_
    rintro e wH1 ⟨rfl, hb⟩
    have H1 := Lib.hid ((H0.out.alloc _).step hb); clear hb
    try clear x0 x1 x2 x3 x4 x5
    obtain ⟨x0, x1, x2, x3, x4, x5, _⟩ := H1.out.1
    go_wp2_with fail
    go_ret
    exact ⟨ret_bool (by rw [HR.out]; simp), H1.out.below⟩
  have hte := HTE.out rfl
  subst hte
  by_cases ht0 : t' = 0
  · subst ht0
    go_enter Tryz.func230, Tryz.ntmps230
    go_wp2_with fail
    refine (HA.out _ _ _ (by simp)).mono ?_
    rintro e wH1 ⟨rfl, hb⟩
    have H1 := Lib.hid ((H0.out.alloc _).step hb); clear hb
    try clear x0 x1 x2 x3 x4 x5
    obtain ⟨x0, x1, x2, x3, x4, x5, _⟩ := H1.out.1
    go_wp2_with fail
    refine (HT.out _).mono ?_
    rintro e wH2 ⟨rfl, hb⟩
    have H2 := Lib.hid ((H1.out).step hb); clear hb
    try clear x0 x1 x2 x3 x4 x5
    obtain ⟨x0, x1, x2, x3, x4, x5, _⟩ := H2.out.1
    go_wp2_with fail
    refine (HX.out _).mono ?_
    rintro e wH3 ⟨rfl, hb⟩
    have H3 := Lib.hid ((H2.out).step hb); clear hb
    try clear x0 x1 x2 x3 x4 x5
    obtain ⟨x0, x1, x2, x3, x4, x5, _⟩ := H3.out.1
    go_wp2_with fail
    go_ret
    exact ⟨ret_bool (by rw [HR.out]; simp), H3.out.below⟩
  · have h5 : (t' == 0) = false := by rw [beq_eq_false_iff_ne]; exact ht0
    have HT0 := Lib.hid ht0; clear ht0
    go_enter Tryz.func230, Tryz.ntmps230
    go_wp2_with fail
    refine (HA.out _ _ _ (by simp)).mono ?_
    rintro e wH1 ⟨rfl, hb⟩
    have H1 := Lib.hid ((H0.out.alloc _).step hb); clear hb
    try clear x0 x1 x2 x3 x4 x5
    obtain ⟨x0, x1, x2, x3, x4, x5, _⟩ := H1.out.1
    go_wp2_with fail
    refine (HT.out _).mono ?_
    rintro e wH2 ⟨rfl, hb⟩
    have H2 := Lib.hid ((H1.out).step hb); clear hb
    try clear x0 x1 x2 x3 x4 x5
    obtain ⟨x0, x1, x2, x3, x4, x5, _⟩ := H2.out.1
    go_wp2_with fail
    go_ret
    exact ⟨ret_bool (by rw [HR.out]; simp [HT0.out]), H2.out.below⟩

theorem implBefore (a b c : Nd) (w : World) :
    Calls Tryz.prog 224 #[a.val, b.val, c.val] w (BoolIs (beforeB a b c) w) := by
  have hr : beforeB a b c = ((okB a && (okB b && okB c)) && (if halfI a b = halfI a c then decide (0 < turnI a b c) else decide (halfI a b < halfI a c))) := by
    unfold beforeB; rw [Bool.and_assoc (okB a)]
  have HR := Lib.hid hr; clear hr
  have HA := Lib.hid (fun g T w => implAre3 a b c g T w)
  have H0 := Lib.hid (held3 w a b c 115)
  have ht : (okB a && (okB b && okB c)) = true → turnOf a b c = turnI a b c := by
    intro h; rw [← Bool.and_assoc] at h; unfold turnOf; rw [if_pos h]
  have HT := Lib.hid (implTurnOf a b c)
  have HP := Lib.hid (implHalf a b)
  have HQ := Lib.hid (implHalf a c)
  generalize beforeB a b c = r at *
  generalize (okB a && (okB b && okB c)) = k at *
  generalize turnI a b c = t at *
  have HTE := Lib.hid ht; clear ht
  generalize turnOf a b c = t' at *
  generalize halfI a b = p at *
  generalize halfI a c = q at *
  obtain ⟨ax, ay⟩ := a
  obtain ⟨bx, by'⟩ := b
  obtain ⟨cx, cy⟩ := c
  simp only at HA H0
  unfold Nd.val at HT HP HQ ⊢
  cases k
  · go_enter Tryz.func224, Tryz.ntmps224
    go_wp2_with fail
    refine (HA.out _ _ _ (by simp)).mono ?_
    rintro e wH1 ⟨rfl, hb⟩
    have H1 := Lib.hid ((H0.out.alloc _).step hb); clear hb
    try clear x0 x1 x2 x3 x4 x5
    obtain ⟨x0, x1, x2, x3, x4, x5, _⟩ := H1.out.1
    go_wp2_with fail
    go_ret
    exact ⟨ret_bool (by rw [HR.out]; simp), H1.out.below⟩
  have hte := HTE.out rfl
  subst hte
  by_cases hpq : p = q
  · subst hpq
    go_enter Tryz.func224, Tryz.ntmps224
    go_wp2_with fail
    refine (HA.out _ _ _ (by simp)).mono ?_
    rintro e wH1 ⟨rfl, hb⟩
    have H1 := Lib.hid ((H0.out.alloc _).step hb); clear hb
    try clear x0 x1 x2 x3 x4 x5
    obtain ⟨x0, x1, x2, x3, x4, x5, _⟩ := H1.out.1
    go_wp2_with fail
    first | (go_region_held3 (fun w' => w'.cell? ⟨w.heap.size, 0, none⟩ = some (.int .i64 (ax)) ∧ w'.cell? ⟨w.heap.size, 1, none⟩ = some (.int .i64 (ay)) ∧ w'.cell? ⟨w.heap.size + 1, 0, none⟩ = some (.int .i64 (bx)) ∧ w'.cell? ⟨w.heap.size + 1, 1, none⟩ = some (.int .i64 (by')) ∧ w'.cell? ⟨w.heap.size + 1 + 1, 0, none⟩ = some (.int .i64 (cx)) ∧ w'.cell? ⟨w.heap.size + 1 + 1, 1, none⟩ = some (.int .i64 (cy))) (first | go_keep | (refine ⟨?_, ?_, ?_, ?_, ?_, ?_⟩ <;> assumption)) (first | (go_at_call 235; (first | (with_reducible refine (HP.out _).mono ?_) | (with_reducible refine (HQ.out _).mono ?_) | fail); rintro e wn ⟨rfl, hbn⟩; (first | (have HN1 := Lib.hid (H1.out.drew.step hbn)) | (have HN2 := Lib.hid (HN1.out.step hbn)) | fail); clear hbn; (first | (obtain ⟨x0, x1, x2, x3, x4, x5, _⟩ := HN2.out.1) | (obtain ⟨x0, x1, x2, x3, x4, x5, _⟩ := HN1.out.1) | fail)) | fail)) | fail
    have H2 := HN2
    clear HN1 HN2
    try clear x0 x1 x2 x3 x4 x5
    obtain ⟨x0, x1, x2, x3, x4, x5, _⟩ := H2.out.1
    go_wp2_with fail
    refine (HT.out _).mono ?_
    rintro e wH3 ⟨rfl, hb⟩
    have H3 := Lib.hid ((H2.out).step hb); clear hb
    try clear x0 x1 x2 x3 x4 x5
    obtain ⟨x0, x1, x2, x3, x4, x5, _⟩ := H3.out.1
    go_wp2_with fail
    go_ret
    exact ⟨ret_bool (by rw [HR.out]; simp), H3.out.below⟩
  · have h5 : (p == q) = false := by rw [beq_eq_false_iff_ne]; exact hpq
    have h6 : (p != q) = true := by rw [bne_iff_ne]; exact hpq
    have HPQ := Lib.hid hpq; clear hpq
    go_enter Tryz.func224, Tryz.ntmps224
    go_wp2_with fail
    refine (HA.out _ _ _ (by simp)).mono ?_
    rintro e wH1 ⟨rfl, hb⟩
    have H1 := Lib.hid ((H0.out.alloc _).step hb); clear hb
    try clear x0 x1 x2 x3 x4 x5
    obtain ⟨x0, x1, x2, x3, x4, x5, _⟩ := H1.out.1
    go_wp2_with fail
    first | (go_region_held3 (fun w' => w'.cell? ⟨w.heap.size, 0, none⟩ = some (.int .i64 (ax)) ∧ w'.cell? ⟨w.heap.size, 1, none⟩ = some (.int .i64 (ay)) ∧ w'.cell? ⟨w.heap.size + 1, 0, none⟩ = some (.int .i64 (bx)) ∧ w'.cell? ⟨w.heap.size + 1, 1, none⟩ = some (.int .i64 (by')) ∧ w'.cell? ⟨w.heap.size + 1 + 1, 0, none⟩ = some (.int .i64 (cx)) ∧ w'.cell? ⟨w.heap.size + 1 + 1, 1, none⟩ = some (.int .i64 (cy))) (first | go_keep | (refine ⟨?_, ?_, ?_, ?_, ?_, ?_⟩ <;> assumption)) (first | (go_at_call 235; (first | (with_reducible refine (HP.out _).mono ?_) | (with_reducible refine (HQ.out _).mono ?_) | fail); rintro e wn ⟨rfl, hbn⟩; (first | (have HN1 := Lib.hid (H1.out.drew.step hbn)) | (have HN2 := Lib.hid (HN1.out.step hbn)) | fail); clear hbn; (first | (obtain ⟨x0, x1, x2, x3, x4, x5, _⟩ := HN2.out.1) | (obtain ⟨x0, x1, x2, x3, x4, x5, _⟩ := HN1.out.1) | fail)) | fail)) | fail
    have H2 := HN2
    clear HN1 HN2
    try clear x0 x1 x2 x3 x4 x5
    obtain ⟨x0, x1, x2, x3, x4, x5, _⟩ := H2.out.1
    go_wp2_with fail
    go_ret
    exact ⟨ret_bool (by rw [HR.out, if_neg HPQ.out]; simp), H2.out.below⟩
end Go.Proofs.YtepacoacalhdcaaGreat

namespace Go.Proofs.YtepacoacalhdcaaGreat
open Go.RowKit
set_option linter.unusedVariables false
set_option linter.unusedSimpArgs false

theorem implHas (A : Option Addr) (n c : Nat) (k : Int) (w : World) (hn : n ≤ 9223372036854775807) :
    Calls Tryz.prog 208 #[.slice A n c, .int .i64 k] w fun e w' => e = .returned (.bool (idxB n k)) ∧ w = w' := by
  have hr : idxB n k = decide (0 ≤ k ∧ k < (n : Int)) := by rw [Bool.eq_iff_iff, idxB_iff]; simp
  generalize idxB n k = r at *
  have HR := Lib.hid hr; clear hr
  go_enter Tryz.func208, Tryz.ntmps208
  go_wp2
  all_goals
    go_ret
    exact ⟨ret_bool (by rw [HR.out, Bool.eq_iff_iff]; simp; omega), rfl⟩

def EndsIs (a b : Nd) (w : World) (e : Ending) (w' : World) : Prop := e = .returned (.tuple #[a.val, b.val]) ∧ Below w.heap.size w w'

theorem implEnds (xs : List Nd) (b o c i j : Nat) (w : World) (hb : b < w.heap.size) (hcs : CellsAt w b o xs) (hi : i < xs.length) (hj : j < xs.length) (hn : xs.length ≤ 9223372036854775807) :
    Calls Tryz.prog 154 #[.slice (some ⟨b, o, none⟩) xs.length c, (Nd.mk i j).val] w (EndsIs (atN xs i) (atN xs j) w) := by
  have H0 := Lib.hid (held_lead hcs hb hi hj ⟨i, j⟩ 151)
  unfold P1 at H0
  unfold EndsIs
  generalize atN xs i = n1 at *
  generalize atN xs j = n2 at *
  obtain ⟨ax, ay⟩ := n1
  obtain ⟨bx, by'⟩ := n2
  unfold Nd.val
  simp only at H0
  have hz1 : (i : Int) < (xs.length : Int) := by omega
  have hz2 : (j : Int) < (xs.length : Int) := by omega
  have hz3 : (0 : Int) ≤ i := by omega
  have hz4 : (0 : Int) ≤ j := by omega
  obtain ⟨c0, c1, c2, c3, c4, c5, _⟩ := H0.out.1
  have hb1 : b < w.heap.size + 1 := by omega
  have hb2 : b < w.heap.size + 1 + 1 := by omega
  have d2 : w.cell? ⟨b, o + i * 2, none⟩ = some (.int .i64 ax) := by rw [← c2]; exact (World.cell?_alloc_lt w _ _ (by simpa using hb)).symm
  have d3 : w.cell? ⟨b, o + i * 2 + 1, none⟩ = some (.int .i64 ay) := by rw [← c3]; exact (World.cell?_alloc_lt w _ _ (by simpa using hb)).symm
  have d4 : w.cell? ⟨b, o + j * 2, none⟩ = some (.int .i64 bx) := by rw [← c4]; exact (World.cell?_alloc_lt w _ _ (by simpa using hb)).symm
  have d5 : w.cell? ⟨b, o + j * 2 + 1, none⟩ = some (.int .i64 by') := by rw [← c5]; exact (World.cell?_alloc_lt w _ _ (by simpa using hb)).symm
  clear c0 c1 c2 c3 c4 c5 hcs
  go_enter Tryz.func154, Tryz.ntmps154
  go_wp2_with fail
  go_region
  go_wp2_with fail
  refine bodyPost_ret (v := .tuple #[.agg #[.int .i64 ax, .int .i64 ay], .agg #[.int .i64 bx, .int .i64 by']]) (by simp [results, Tryz.results154, go_sem]) rfl ⟨rfl, ?_⟩
  exact (below3 w _ _ _).drew

theorem implEnds2 (xs : List Nd) (v : Value) (i j : Nat) (w : World) (hv : Prs w v xs) (hi : i < xs.length) (hj : j < xs.length) :
    Calls Tryz.prog 154 #[v, (Nd.mk i j).val] w (EndsIs (atN xs i) (atN xs j) w) := by
  have hn := hv.len
  obtain ⟨b, o, c, rfl, hb, hcs⟩ := prs_at hv hi
  exact implEnds xs b o c i j w hb hcs hi hj hn

theorem implHas2 (xs : List Nd) (v : Value) (k : Int) (w : World) (hv : ∃ (A : Option Addr) (c : Nat), v = .slice A xs.length c) (hn : xs.length ≤ 9223372036854775807) :
    Calls Tryz.prog 208 #[v, .int .i64 k] w fun e w' => e = .returned (.bool (idxB xs.length k)) ∧ w = w' := by
  obtain ⟨A, c, rfl⟩ := hv
  exact implHas A xs.length c k w hn

set_option maxRecDepth 100000 in
theorem implLeadOk (xs : List Nd) (v : Value) (l : Nd) (w : World) (hv : Prs w v xs) :
    Calls Tryz.prog 205 #[v, l.val] w (BoolIs (leadOkB xs l) w) := by
  have hr : leadOkB xs l = (idxB xs.length l.x && idxB xs.length l.y && decide (l.x < l.y) && (okB (atI xs l.x) && okB (atI xs l.y)) && decide (atI xs l.x ≠ atI xs l.y)) := rfl
  have HR := Lib.hid hr; clear hr
  have hlen := hv.len
  have HX := Lib.hid (fun w => implHas2 xs v l.x w (prs_form hv) hlen)
  have HY := Lib.hid (fun w => implHas2 xs v l.y w (prs_form hv) hlen)
  have H0 := Lib.hid (held1 w l 151)
  have HP := Lib.hid (hv.step H0.out.below)
  generalize leadOkB xs l = r at *
  by_cases hx : idxB xs.length l.x = true
  case neg =>
    rw [Bool.not_eq_true] at hx
    rw [hx] at HX HR
    clear hx
    obtain ⟨A, c, rfl⟩ := prs_form hv
    clear hv
    obtain ⟨lx, ly⟩ := l
    unfold Nd.val
    simp only at HX HY H0
    go_enter Tryz.func205, Tryz.ntmps205
    go_wp2_with fail
    refine (HX.out _).mono ?_
    rintro e w' ⟨rfl, rfl⟩
    go_wp2_with fail
    go_ret
    exact ⟨ret_bool (by rw [HR.out]; simp), H0.out.below⟩
  by_cases hy : idxB xs.length l.y = true
  case neg =>
    rw [Bool.not_eq_true] at hy
    rw [hy] at HY HR
    rw [hx] at HX
    clear hy hx
    obtain ⟨A, c, rfl⟩ := prs_form hv
    clear hv
    obtain ⟨lx, ly⟩ := l
    unfold Nd.val
    simp only at HX HY H0
    go_enter Tryz.func205, Tryz.ntmps205
    go_wp2_with fail
    refine (HX.out _).mono ?_
    rintro e w' ⟨rfl, rfl⟩
    go_wp2_with fail
    refine (HY.out _).mono ?_
    rintro e w' ⟨rfl, rfl⟩
    go_wp2_with fail
    go_ret
    exact ⟨ret_bool (by rw [HR.out]; simp), H0.out.below⟩
  rw [hx, hy] at HR
  rw [hx] at HX
  rw [hy] at HY
  rw [idxB_iff] at hx hy
  obtain ⟨lx, ly⟩ := l
  simp only at hx hy HX HY HR H0 HP
  obtain ⟨i, rfl⟩ : ∃ i : Nat, lx = i := ⟨lx.toNat, by omega⟩
  obtain ⟨j, rfl⟩ : ∃ j : Nat, ly = j := ⟨ly.toNat, by omega⟩
  have hi : i < xs.length := by omega
  have hj : j < xs.length := by omega
  have HE := Lib.hid (fun w hv => implEnds2 xs v i j w hv hi hj)
  obtain ⟨A, c, rfl⟩ := prs_form hv
  clear hv
  unfold Nd.val
  by_cases hlt : i < j
  case neg =>
    go_enter Tryz.func205, Tryz.ntmps205
    go_wp2_with fail
    refine (HX.out _).mono ?_
    rintro e w' ⟨rfl, rfl⟩
    go_wp2_with fail
    refine (HY.out _).mono ?_
    rintro e w' ⟨rfl, rfl⟩
    go_wp2_with fail
    go_ret
    exact ⟨ret_bool (by rw [HR.out, decide_eq_false (p := (i : Int) < j) (by omega)]; simp), H0.out.below⟩
  have hr2 : r = ((okB (atN xs i) && okB (atN xs j)) && decide (atN xs i ≠ atN xs j)) := by
    rw [HR.out, decide_eq_true (p := (i : Int) < j) (by omega), atI_nat, atI_nat]; simp
  have HR2 := Lib.hid hr2; clear hr2 HR
  have HA := Lib.hid (fun g T W => implAre2 (atN xs i) (atN xs j) g T W)
  have q := eqNd (atN xs i) (atN xs j)
  have g : decide (atN xs i ≠ atN xs j) = !decide (atN xs i = atN xs j) := by simp
  rw [g] at HR2
  clear g
  unfold EndsIs at HE
  generalize decide (atN xs i = atN xs j) = d at *
  generalize (okB (atN xs i) && okB (atN xs j)) = k at *
  generalize atN xs i = n1 at *
  generalize atN xs j = n2 at *
  obtain ⟨ax, ay⟩ := n1
  obtain ⟨bx, by'⟩ := n2
  unfold Nd.val at HE
  simp only at q HA HE
  cases k
  · go_enter Tryz.func205, Tryz.ntmps205
    go_wp2_with fail
    refine (HX.out _).mono ?_
    rintro e w' ⟨rfl, rfl⟩
    go_wp2_with fail
    refine (HY.out _).mono ?_
    rintro e w' ⟨rfl, rfl⟩
    go_wp2_with fail
    refine (HE.out _ HP.out).mono ?_
    rintro e wH1 ⟨rfl, hb⟩
    have H1 := Lib.hid ((H0.out).step hb); clear hb
    try clear x0 x1
    obtain ⟨x0, x1, _⟩ := H1.out.1
    go_wp2_with fail
    refine (HA.out _ _ _ (by simp)).mono ?_
    rintro e wH2 ⟨rfl, hb⟩
    have H2 := Lib.hid (((((H1.out.drop.new2 wH1.heap.size rfl [.int .i64 ax, .int .i64 ay] 115).new2 (wH1.heap.size + 1) (by simp) [.int .i64 bx, .int .i64 by'] 115).alloc _)).step hb); clear hb
    try clear x0 x1 x2 x3
    obtain ⟨x0, x1, x2, x3, _⟩ := H2.out.1
    go_wp2_with fail
    go_ret
    exact ⟨ret_bool (by rw [HR2.out]; simp), H2.out.below⟩
  · go_enter Tryz.func205, Tryz.ntmps205
    go_wp2_with fail
    refine (HX.out _).mono ?_
    rintro e w' ⟨rfl, rfl⟩
    go_wp2_with fail
    refine (HY.out _).mono ?_
    rintro e w' ⟨rfl, rfl⟩
    go_wp2_with fail
    refine (HE.out _ HP.out).mono ?_
    rintro e wH1 ⟨rfl, hb⟩
    have H1 := Lib.hid ((H0.out).step hb); clear hb
    try clear x0 x1
    obtain ⟨x0, x1, _⟩ := H1.out.1
    go_wp2_with fail
    refine (HA.out _ _ _ (by simp)).mono ?_
    rintro e wH2 ⟨rfl, hb⟩
    have H2 := Lib.hid (((((H1.out.drop.new2 wH1.heap.size rfl [.int .i64 ax, .int .i64 ay] 115).new2 (wH1.heap.size + 1) (by simp) [.int .i64 bx, .int .i64 by'] 115).alloc _)).step hb); clear hb
    try clear x0 x1 x2 x3
    obtain ⟨x0, x1, x2, x3, _⟩ := H2.out.1
    go_wp2_with fail
    go_ret
    exact ⟨ret_bool (by rw [HR2.out]; simp), H2.out.below⟩

theorem implOther (l : Nd) (k : Int) (w : World) :
    Calls Tryz.prog 195 #[l.val, .int .i64 k] w (IntIs (otherI l k) w) := by
  have hr : otherI l k = if k = l.x then l.y else if k = l.y then l.x else -1 := rfl
  generalize otherI l k = r at *
  obtain ⟨x, y⟩ := l
  simp only at hr
  have HR := Lib.hid hr; clear hr
  unfold Nd.val
  by_cases h1 : k = x
  · subst h1
    go_enter Tryz.func195, Tryz.ntmps195
    go_wp2_with fail
    go_ret
    exact ⟨ret_int (by rw [HR.out]; simp), (Below.refl _ _).alloc (Nat.le_refl _) _⟩
  have g1 : (k == x) = false := by rw [beq_eq_false_iff_ne]; exact h1
  have H1 := Lib.hid h1; clear h1
  by_cases h2 : k = y
  · subst h2
    go_enter Tryz.func195, Tryz.ntmps195
    go_wp2_with fail
    go_ret
    exact ⟨ret_int (by rw [HR.out, if_neg H1.out]; simp), (Below.refl _ _).alloc (Nat.le_refl _) _⟩
  · have g2 : (k == y) = false := by rw [beq_eq_false_iff_ne]; exact h2
    have H2 := Lib.hid h2; clear h2
    go_enter Tryz.func195, Tryz.ntmps195
    go_wp2_with fail
    go_ret
    exact ⟨ret_int (by rw [HR.out, if_neg H1.out, if_neg H2.out]), (Below.refl _ _).alloc (Nat.le_refl _) _⟩

set_option maxRecDepth 100000 in
theorem implOn (xs : List Nd) (v : Value) (l n : Nd) (w : World) (hv : Prs w v xs) :
    Calls Tryz.prog 221 #[v, l.val, n.val] w (BoolIs (onLeadB xs l n) w) := by
  have hr : onLeadB xs l n = (leadOkB xs l && (decide (n = atI xs l.x) || decide (n = atI xs l.y) || betweenB (atI xs l.x) (atI xs l.y) n)) := rfl
  have HR := Lib.hid hr; clear hr
  have HL := Lib.hid (fun w hv => implLeadOk xs v l w hv)
  have hlen := hv.len
  generalize onLeadB xs l n = r at *
  by_cases hk : leadOkB xs l = true
  case neg =>
    rw [Bool.not_eq_true] at hk
    rw [hk] at HL HR
    clear hk
    have H0 := Lib.hid (held2 w l n 151 115)
    have HP := Lib.hid ((hv.step (H0.out.below)))
    obtain ⟨A, c, rfl⟩ := prs_form hv
    clear hv
    obtain ⟨lx, ly⟩ := l
    obtain ⟨nx, ny⟩ := n
    unfold Nd.val at HL ⊢
    simp only at H0 HP HL
    go_enter Tryz.func221, Tryz.ntmps221
    go_wp2_with fail
    refine (HL.out _ HP.out).mono ?_
    rintro e wH1 ⟨rfl, hb⟩
    have H1 := Lib.hid ((H0.out).step hb); clear hb
    try clear x0 x1 x2 x3
    obtain ⟨x0, x1, x2, x3, _⟩ := H1.out.1
    go_wp2_with fail
    go_ret
    exact ⟨ret_bool (by rw [HR.out]; simp), H1.out.below⟩
  obtain ⟨i, j, rfl, hij, hi, hj, ki, kj⟩ := leadOkB_spec hk
  rw [hk] at HL HR
  simp only [Bool.true_and] at HR
  rw [atI_nat, atI_nat] at HR
  clear hk ki kj
  have HP0 := Lib.hid hv
  have HE := Lib.hid (fun w hv => implEnds2 xs v i j w hv hi hj)
  unfold EndsIs at HE
  obtain ⟨b, o, c, rfl, hb, hcs⟩ := prs_at hv hi
  have H0 := Lib.hid (held_on hcs hb hi hj ⟨i, j⟩ n 151 115)
  have HP := Lib.hid (HP0.out.step (H0.out.below))
  have HBT := Lib.hid (implBetween (atN xs i) (atN xs j) n)
  have q1 := eqNd n (atN xs i)
  have q2 := eqNd n (atN xs j)
  clear hcs
  clear hv
  unfold P1 at H0
  generalize decide (n = atN xs i) = d1 at *
  generalize decide (n = atN xs j) = d2 at *
  generalize betweenB (atN xs i) (atN xs j) n = bt at *
  generalize atN xs i = n1 at *
  generalize atN xs j = n2 at *
  obtain ⟨nx, ny⟩ := n
  obtain ⟨ax, ay⟩ := n1
  obtain ⟨bx, by'⟩ := n2
  unfold Nd.val at HL HBT HE ⊢
  simp only at H0 HP HL HBT HE q1 q2
  have hij1 : (i : Int) < (xs.length : Int) := by omega
  have hij2 : (j : Int) < (xs.length : Int) := by omega
  cases d1
  case true =>
    go_enter Tryz.func221, Tryz.ntmps221
    go_wp2_with fail
    refine (HL.out _ HP.out).mono ?_
    rintro e wH1 ⟨rfl, hb⟩
    have H1 := Lib.hid ((H0.out).step hb); clear hb
    try clear x0 x1 x2 x3 x4 x5 x6 x7
    obtain ⟨x0, x1, x2, x3, x4, x5, x6, x7, _⟩ := H1.out.1
    go_wp2_with fail
    refine (HE.out _ (HP0.out.step H1.out.below)).mono ?_
    rintro e wH1e ⟨rfl, hb⟩
    have H1e := Lib.hid ((H1.out).step hb); clear hb
    try clear x0 x1 x2 x3
    obtain ⟨x0, x1, x2, x3, _⟩ := H1e.out.1
    obtain ⟨y0, y1, y2, y3, _⟩ := H1e.out.2.1
    go_wp2_with fail
    go_ret
    exact ⟨ret_bool (by rw [HR.out]; simp), ((H1e.out.alloc _).alloc _).below⟩
  cases d2
  case true =>
    go_enter Tryz.func221, Tryz.ntmps221
    go_wp2_with fail
    refine (HL.out _ HP.out).mono ?_
    rintro e wH1 ⟨rfl, hb⟩
    have H1 := Lib.hid ((H0.out).step hb); clear hb
    try clear x0 x1 x2 x3 x4 x5 x6 x7
    obtain ⟨x0, x1, x2, x3, x4, x5, x6, x7, _⟩ := H1.out.1
    go_wp2_with fail
    refine (HE.out _ (HP0.out.step H1.out.below)).mono ?_
    rintro e wH1e ⟨rfl, hb⟩
    have H1e := Lib.hid ((H1.out).step hb); clear hb
    try clear x0 x1 x2 x3
    obtain ⟨x0, x1, x2, x3, _⟩ := H1e.out.1
    obtain ⟨y0, y1, y2, y3, _⟩ := H1e.out.2.1
    go_wp2_with fail
    go_ret
    exact ⟨ret_bool (by rw [HR.out]; simp), ((H1e.out.alloc _).alloc _).below⟩
  · go_enter Tryz.func221, Tryz.ntmps221
    go_wp2_with fail
    refine (HL.out _ HP.out).mono ?_
    rintro e wH1 ⟨rfl, hb⟩
    have H1 := Lib.hid ((H0.out).step hb); clear hb
    try clear x0 x1 x2 x3 x4 x5 x6 x7
    obtain ⟨x0, x1, x2, x3, x4, x5, x6, x7, _⟩ := H1.out.1
    go_wp2_with fail
    refine (HE.out _ (HP0.out.step H1.out.below)).mono ?_
    rintro e wH1e ⟨rfl, hb⟩
    have H1e := Lib.hid ((H1.out).step hb); clear hb
    try clear x0 x1 x2 x3
    obtain ⟨x0, x1, x2, x3, _⟩ := H1e.out.1
    obtain ⟨y0, y1, y2, y3, _⟩ := H1e.out.2.1
    go_wp2_with fail
    refine (HBT.out _).mono ?_
    rintro e wH2 ⟨rfl, hb⟩
    have H2 := Lib.hid (((H1e.out.alloc _).alloc _).step hb); clear hb
    try clear x0 x1 x2 x3
    obtain ⟨x0, x1, x2, x3, _⟩ := H2.out.1
    go_wp2_with fail
    go_ret
    exact ⟨ret_bool (by rw [HR.out]; simp), H2.out.below⟩

/-- Four boxed nodes at the start of a call. -/
theorem held4 (w : World) (a b c d : Nd) (T : TypeId) :
    Held w ((((w.alloc (.cells #[.int .i64 a.x, .int .i64 a.y] T)).alloc (.cells #[.int .i64 b.x, .int .i64 b.y] T)).alloc (.cells #[.int .i64 c.x, .int .i64 c.y] T)).alloc (.cells #[.int .i64 d.x, .int .i64 d.y] T))
      [(w.heap.size, 0, .int .i64 a.x), (w.heap.size, 1, .int .i64 a.y), (w.heap.size + 1, 0, .int .i64 b.x), (w.heap.size + 1, 1, .int .i64 b.y),
       (w.heap.size + 1 + 1, 0, .int .i64 c.x), (w.heap.size + 1 + 1, 1, .int .i64 c.y), (w.heap.size + 1 + 1 + 1, 0, .int .i64 d.x), (w.heap.size + 1 + 1 + 1, 1, .int .i64 d.y)] := by
  have k := ((((Held.none_ w).new2 w.heap.size rfl [.int .i64 a.x, .int .i64 a.y] T).new2 (w.heap.size + 1) (by simp) [.int .i64 b.x, .int .i64 b.y] T).new2 (w.heap.size + 1 + 1) (by simp) [.int .i64 c.x, .int .i64 c.y] T).new2 (w.heap.size + 1 + 1 + 1) (by simp) [.int .i64 d.x, .int .i64 d.y] T
  obtain ⟨⟨d0, d1, c0, c1, b0, b1, a0, a1, _⟩, ⟨d2, _, c2, _, b2, _, a2, _, _⟩, hb⟩ := k
  exact ⟨⟨a0, a1, b0, b1, c0, c1, d0, d1, trivial⟩, ⟨a2, a2, b2, b2, c2, c2, d2, d2, trivial⟩, hb⟩

theorem implHolds (a b c d : Nd) (w : World) :
    Calls Tryz.prog 231 #[a.val, b.val, c.val, d.val] w (BoolIs (betweenB a b c || betweenB a b d) w) := by
  have HA := Lib.hid (implBetween a b c)
  have HB := Lib.hid (implBetween a b d)
  have H0 := Lib.hid (held4 w a b c d 115)
  generalize betweenB a b c = p at *
  generalize betweenB a b d = q at *
  obtain ⟨ax, ay⟩ := a
  obtain ⟨bx, by'⟩ := b
  obtain ⟨cx, cy⟩ := c
  obtain ⟨dx, dy⟩ := d
  unfold Nd.val at HA HB ⊢
  simp only at HA HB H0
  cases p
  · go_enter Tryz.func231, Tryz.ntmps231
    go_wp2_with fail
    refine (HA.out _).mono ?_
    rintro e wH1 ⟨rfl, hb⟩
    have H1 := Lib.hid ((H0.out).step hb); clear hb
    try clear x0 x1 x2 x3 x4 x5 x6 x7
    obtain ⟨x0, x1, x2, x3, x4, x5, x6, x7, _⟩ := H1.out.1
    go_wp2_with fail
    refine (HB.out _).mono ?_
    rintro e wH2 ⟨rfl, hb⟩
    have H2 := Lib.hid ((H1.out).step hb); clear hb
    try clear x0 x1 x2 x3 x4 x5 x6 x7
    obtain ⟨x0, x1, x2, x3, x4, x5, x6, x7, _⟩ := H2.out.1
    go_wp2_with fail
    go_ret
    exact ⟨ret_bool (by simp), H2.out.below⟩
  · go_enter Tryz.func231, Tryz.ntmps231
    go_wp2_with fail
    refine (HA.out _).mono ?_
    rintro e wH1 ⟨rfl, hb⟩
    have H1 := Lib.hid ((H0.out).step hb); clear hb
    try clear x0 x1 x2 x3 x4 x5 x6 x7
    obtain ⟨x0, x1, x2, x3, x4, x5, x6, x7, _⟩ := H1.out.1
    go_wp2_with fail
    go_ret
    exact ⟨ret_bool (by simp), H1.out.below⟩

set_option maxRecDepth 100000 in
theorem implSep (a b c d : Nd) (w : World) (ka : okB a = true) (kb : okB b = true) (kc : okB c = true) (kd : okB d = true) :
    Calls Tryz.prog 232 #[a.val, b.val, c.val, d.val] w (BoolIs (sepB a b c d) w) := by
  have hr : sepB a b c d = decide (turnI a b c * turnI a b d < 0) := rfl
  have HR := Lib.hid hr; clear hr
  have HA := implTurnOf a b c
  have HB := implTurnOf a b d
  rw [turnOf_ok ka kb kc] at HA
  rw [turnOf_ok ka kb kd] at HB
  have HA := Lib.hid HA
  have HB := Lib.hid HB
  obtain ⟨l1, g1⟩ := turn_bd ka kb kc
  obtain ⟨l2, g2⟩ := turn_bd ka kb kd
  have H0 := Lib.hid (held4 w a b c d 115)
  clear ka kb kc kd
  generalize sepB a b c d = r at *
  generalize turnI a b c = s1 at *
  generalize turnI a b d = s2 at *
  obtain ⟨m1, m2⟩ := prod_bd (p := s1) (q := s2) 800 (by omega) (by omega) (by omega) (by omega)
  have w1 : IntKind.i64.wrap (s1 * s2) = s1 * s2 := IntWalk.i64_in _ (by omega)
  obtain ⟨z, ez⟩ : ∃ z, s1 * s2 = z := ⟨_, rfl⟩
  rw [ez] at HR w1 m1 m2
  obtain ⟨ax, ay⟩ := a
  obtain ⟨bx, by'⟩ := b
  obtain ⟨cx, cy⟩ := c
  obtain ⟨dx, dy⟩ := d
  unfold Nd.val at HA HB ⊢
  simp only at HA HB H0
  go_enter Tryz.func232, Tryz.ntmps232
  go_wp2_with fail
  refine regionD (S := fun W => Held _ W [(w.heap.size, 0, .int .i64 (ax)), (w.heap.size, 1, .int .i64 (ay)), (w.heap.size + 1, 0, .int .i64 (bx)), (w.heap.size + 1, 1, .int .i64 (by')), (w.heap.size + 1 + 1, 0, .int .i64 (cx)), (w.heap.size + 1 + 1, 1, .int .i64 (cy)), (w.heap.size + 1 + 1 + 1, 0, .int .i64 (dx)), (w.heap.size + 1 + 1 + 1, 1, .int .i64 (dy))]) (by kernel_rfl) H0.out.drew ?_
  iterate 11 (refine takeT (v := ?_) rfl (by kernel_rfl) (by kernel_rfl) (by kernel_rfl) ?_ ?_; rotate_left; (first | (refine Or.inr ⟨by rfl, ?_⟩; with_reducible rfl) | (refine Or.inl ⟨by rfl, fun W hS => detRes_value (w' := W) ?_ hS⟩; obtain ⟨x0, x1, x2, x3, x4, x5, x6, x7, _⟩ := hS.1; go_simp; first | done | with_reducible rfl) | (refine Or.inl ⟨by rfl, fun W hS => ?_⟩; refine detRes_call (w' := W) (f := ?_) (args := ?_) ?_ ?_; rotate_left 2; (go_simp; (refine ⟨?_, ?_⟩ <;> with_reducible rfl)); (first | (with_reducible refine (HA.out _).mono ?_) | (with_reducible refine (HB.out _).mono ?_) | fail); (first | (rintro e wn ⟨rfl, hb⟩; refine ⟨?_, hS.step hb⟩; with_reducible rfl) | (rintro e wn ⟨rfl, rfl⟩; refine ⟨?_, hS⟩; with_reducible rfl) | fail)) | fail); (simp only [Act.put, List.setIfInBounds_toArray, List.set_cons_zero, List.set_cons_succ]))
  refine doneD (by kernel_rfl) fun wH1 HS => ?_
  have H1 := Lib.hid HS; clear HS
  try clear x0 x1 x2 x3 x4 x5 x6 x7
  obtain ⟨x0, x1, x2, x3, x4, x5, x6, x7, _⟩ := H1.out.1
  go_wp2_with fail
  go_ret
  exact ⟨ret_bool (by rw [HR.out]), H1.out.below⟩

/-- Two boxed nodes, kept over a call that ends in W1, and two more boxed behind it. -/
theorem held_ends {w W : World} {fs : List (Nat × Nat × Value)} (h : Held w W fs) (a b c d : Nd) (T : TypeId) (W1 : World)
    (hb : Below ((W.alloc (.cells #[.int .i64 a.x, .int .i64 a.y] T)).alloc (.cells #[.int .i64 b.x, .int .i64 b.y] T)).heap.size ((W.alloc (.cells #[.int .i64 a.x, .int .i64 a.y] T)).alloc (.cells #[.int .i64 b.x, .int .i64 b.y] T)) W1) :
    Cs W1 [(W.heap.size, 0, .int .i64 a.x), (W.heap.size, 1, .int .i64 a.y), (W.heap.size + 1, 0, .int .i64 b.x), (W.heap.size + 1, 1, .int .i64 b.y)] ∧
    Bs W1.heap.size [(W.heap.size, 0, .int .i64 a.x), (W.heap.size, 1, .int .i64 a.y), (W.heap.size + 1, 0, .int .i64 b.x), (W.heap.size + 1, 1, .int .i64 b.y)] ∧
    (∀ T1 T2 : TypeId, Held w ((W1.alloc (.cells #[.int .i64 c.x, .int .i64 c.y] T1)).alloc (.cells #[.int .i64 d.x, .int .i64 d.y] T2))
      [(W.heap.size, 0, .int .i64 a.x), (W.heap.size, 1, .int .i64 a.y), (W.heap.size + 1, 0, .int .i64 b.x), (W.heap.size + 1, 1, .int .i64 b.y),
       (W1.heap.size, 0, .int .i64 c.x), (W1.heap.size, 1, .int .i64 c.y), (W1.heap.size + 1, 0, .int .i64 d.x), (W1.heap.size + 1, 1, .int .i64 d.y)]) := by
  have k := ((h.drop.new2 W.heap.size rfl [.int .i64 a.x, .int .i64 a.y] T).new2 (W.heap.size + 1) (by simp) [.int .i64 b.x, .int .i64 b.y] T).step hb
  obtain ⟨⟨b0, b1, a0, a1, _⟩, ⟨b2, _, a2, _, _⟩, hbl⟩ := id k
  refine ⟨⟨a0, a1, b0, b1, trivial⟩, ⟨a2, a2, b2, b2, trivial⟩, fun T1 T2 => ?_⟩
  have k2 := (k.new2 W1.heap.size rfl [.int .i64 c.x, .int .i64 c.y] T1).new2 (W1.heap.size + 1) (by simp) [.int .i64 d.x, .int .i64 d.y] T2
  obtain ⟨⟨d0, d1, c0, c1, b0, b1, a0, a1, _⟩, ⟨d2, _, c2, _, b2, _, a2, _, _⟩, hb⟩ := k2
  exact ⟨⟨a0, a1, b0, b1, c0, c1, d0, d1, trivial⟩, ⟨a2, a2, b2, b2, c2, c2, d2, d2, trivial⟩, hb⟩

set_option maxRecDepth 100000 in
set_option maxHeartbeats 2000000 in
theorem implCross (xs : List Nd) (v : Value) (l m : Nd) (w : World) (hv : Prs w v xs) :
    Calls Tryz.prog 222 #[v, l.val, m.val] w (BoolIs (crossB xs l m) w) := by
  have hr : crossB xs l m = (leadOkB xs l && leadOkB xs m && meetB (atI xs l.x) (atI xs l.y) (atI xs m.x) (atI xs m.y)) := rfl
  have HR := Lib.hid hr; clear hr
  have HL := Lib.hid (fun w hv => implLeadOk xs v l w hv)
  have HM := Lib.hid (fun w hv => implLeadOk xs v m w hv)
  have hlen := hv.len
  have HP0 := Lib.hid hv
  generalize crossB xs l m = r at *
  by_cases hk : leadOkB xs l = true
  case neg =>
    rw [Bool.not_eq_true] at hk
    rw [hk] at HL HR
    clear hk
    have H0 := Lib.hid (held2 w l m 151 151)
    have HP := Lib.hid (HP0.out.step (H0.out.below))
    obtain ⟨A, c, rfl⟩ := prs_form hv
    clear hv
    obtain ⟨lx, ly⟩ := l
    obtain ⟨nx, ny⟩ := m
    unfold Nd.val at HL ⊢
    simp only at H0 HP HL
    go_enter Tryz.func222, Tryz.ntmps222
    go_wp2_with fail
    refine (HL.out _ HP.out).mono ?_
    rintro e wH1 ⟨rfl, hb⟩
    have H1 := Lib.hid ((H0.out).step hb); clear hb
    try clear x0 x1 x2 x3
    obtain ⟨x0, x1, x2, x3, _⟩ := H1.out.1
    go_wp2_with fail
    go_ret
    exact ⟨ret_bool (by rw [HR.out]; simp), H1.out.below⟩
  by_cases hk2 : leadOkB xs m = true
  case neg =>
    rw [Bool.not_eq_true] at hk2
    rw [hk2] at HM HR
    rw [hk] at HL
    clear hk hk2
    have H0 := Lib.hid (held2 w l m 151 151)
    have HP := Lib.hid (HP0.out.step (H0.out.below))
    obtain ⟨A, c, rfl⟩ := prs_form hv
    clear hv
    obtain ⟨lx, ly⟩ := l
    obtain ⟨nx, ny⟩ := m
    unfold Nd.val at HL HM ⊢
    simp only at H0 HP HL HM
    go_enter Tryz.func222, Tryz.ntmps222
    go_wp2_with fail
    refine (HL.out _ HP.out).mono ?_
    rintro e wH1 ⟨rfl, hb⟩
    have H1 := Lib.hid ((H0.out).step hb); clear hb
    try clear x0 x1 x2 x3
    obtain ⟨x0, x1, x2, x3, _⟩ := H1.out.1
    go_wp2_with fail
    refine (HM.out _ (HP0.out.step H1.out.below)).mono ?_
    rintro e wH2 ⟨rfl, hb⟩
    have H2 := Lib.hid ((H1.out).step hb); clear hb
    try clear x0 x1 x2 x3
    obtain ⟨x0, x1, x2, x3, _⟩ := H2.out.1
    go_wp2_with fail
    go_ret
    exact ⟨ret_bool (by rw [HR.out]; simp), H2.out.below⟩
  obtain ⟨i, j, rfl, hij, hi, hj, ki, kj⟩ := leadOkB_spec hk
  obtain ⟨p, q, rfl, hpq, hp, hq, kp, kq⟩ := leadOkB_spec hk2
  rw [hk] at HL HR
  rw [hk2] at HM HR
  simp only [Bool.true_and, atI_nat] at HR
  rw [meet_prog] at HR
  clear hk hk2
  have H0 := Lib.hid (held2 w ⟨i, j⟩ ⟨p, q⟩ 151 151)
  have HP := Lib.hid (HP0.out.step (H0.out.below))
  have HE := Lib.hid (fun w hv => implEnds2 xs v i j w hv hi hj)
  have HG := Lib.hid (fun w hv => implEnds2 xs v p q w hv hp hq)
  obtain ⟨A, c, rfl⟩ := prs_form hv
  clear hv
  unfold EndsIs at HE HG
  have HB1 := Lib.hid (implHolds (atN xs i) (atN xs j) (atN xs p) (atN xs q))
  have HB2 := Lib.hid (implHolds (atN xs p) (atN xs q) (atN xs i) (atN xs j))
  have HS1 := Lib.hid (fun w => implSep (atN xs i) (atN xs j) (atN xs p) (atN xs q) w ki kj kp kq)
  have HS2 := Lib.hid (fun w => implSep (atN xs p) (atN xs q) (atN xs i) (atN xs j) w kp kq ki kj)
  have q1 := eqNd (atN xs i) (atN xs p)
  have q2 := eqNd (atN xs j) (atN xs q)
  have q3 := eqNd (atN xs i) (atN xs q)
  have q4 := eqNd (atN xs j) (atN xs p)
  clear ki kj kp kq
  generalize decide (atN xs i = atN xs p) = e1 at *
  generalize decide (atN xs j = atN xs q) = e2 at *
  generalize decide (atN xs i = atN xs q) = e3 at *
  generalize decide (atN xs j = atN xs p) = e4 at *
  generalize (betweenB (atN xs i) (atN xs j) (atN xs p) || betweenB (atN xs i) (atN xs j) (atN xs q)) = b1 at *
  generalize (betweenB (atN xs p) (atN xs q) (atN xs i) || betweenB (atN xs p) (atN xs q) (atN xs j)) = b2 at *
  generalize sepB (atN xs i) (atN xs j) (atN xs p) (atN xs q) = s1 at *
  generalize sepB (atN xs p) (atN xs q) (atN xs i) (atN xs j) = s2 at *
  generalize atN xs i = n1 at *
  generalize atN xs j = n2 at *
  generalize atN xs p = n3 at *
  generalize atN xs q = n4 at *
  obtain ⟨ax, ay⟩ := n1
  obtain ⟨bx, by'⟩ := n2
  obtain ⟨cx, cy⟩ := n3
  obtain ⟨dx, dy⟩ := n4
  have HF := Lib.hid (fun W W1 fs (h : Held w W fs) hb => held_ends h ⟨ax, ay⟩ ⟨bx, by'⟩ ⟨cx, cy⟩ ⟨dx, dy⟩ 115 W1 hb)
  unfold Nd.val at HL HM HB1 HB2 HS1 HS2 HE HG ⊢
  simp only at H0 HP HL HM HB1 HB2 HS1 HS2 HE HG HF q1 q2 q3 q4
  cases b1
  · cases b2
    · cases s1
      · go_enter Tryz.func222, Tryz.ntmps222
        go_wp2_with fail
        refine (HL.out _ HP.out).mono ?_
        rintro e wH1 ⟨rfl, hb⟩
        have H1 := Lib.hid ((H0.out).step hb); clear hb
        try clear x0 x1 x2 x3
        obtain ⟨x0, x1, x2, x3, _⟩ := H1.out.1
        go_wp2_with fail
        refine (HM.out _ (HP0.out.step H1.out.below)).mono ?_
        rintro e wH2 ⟨rfl, hb⟩
        have H2 := Lib.hid ((H1.out).step hb); clear hb
        try clear x0 x1 x2 x3
        obtain ⟨x0, x1, x2, x3, _⟩ := H2.out.1
        go_wp2_with fail
        refine (HE.out _ (HP0.out.step H2.out.below)).mono ?_
        rintro e wH3 ⟨rfl, hb⟩
        have H3 := Lib.hid ((H2.out).step hb); clear hb
        try clear x0 x1 x2 x3
        obtain ⟨x0, x1, x2, x3, _⟩ := H3.out.1
        obtain ⟨y0, y1, y2, y3, _⟩ := H3.out.2.1
        go_wp2_with fail
        refine (HG.out _ (HP0.out.step ((H3.out.alloc _).alloc _).below)).mono ?_
        rintro e w4 ⟨rfl, hb4⟩
        have H4 := Lib.hid (HF.out _ _ _ H3.out hb4); clear hb4
        clear x0 x1 x2 x3
        obtain ⟨⟨u0, u1, u2, u3, _⟩, ⟨v0, _, v1, _, _⟩, hfour⟩ := H4.out
        clear hfour
        go_wp2_with fail
        any_goals (go_ret; exact ⟨ret_bool (by rw [HR.out]; simp [*]), (H4.out.2.2 _ _).below⟩)
        all_goals
          refine (HB1.out _).mono ?_
          rintro e wH5 ⟨rfl, hb⟩
          have H5 := Lib.hid ((H4.out.2.2 _ _).step hb); clear hb
          try clear x0 x1 x2 x3 x4 x5 x6 x7
          obtain ⟨x0, x1, x2, x3, x4, x5, x6, x7, _⟩ := H5.out.1
          go_wp2_with fail
          refine (HB2.out _).mono ?_
          rintro e wH6 ⟨rfl, hb⟩
          have H6 := Lib.hid ((H5.out).step hb); clear hb
          try clear x0 x1 x2 x3 x4 x5 x6 x7
          obtain ⟨x0, x1, x2, x3, x4, x5, x6, x7, _⟩ := H6.out.1
          go_wp2_with fail
          refine (HS1.out _).mono ?_
          rintro e wH7 ⟨rfl, hb⟩
          have H7 := Lib.hid ((H6.out).step hb); clear hb
          try clear x0 x1 x2 x3 x4 x5 x6 x7
          obtain ⟨x0, x1, x2, x3, x4, x5, x6, x7, _⟩ := H7.out.1
          go_wp2_with fail
          go_ret
          exact ⟨ret_bool (by rw [HR.out]; simp [*]), H7.out.below⟩
      · go_enter Tryz.func222, Tryz.ntmps222
        go_wp2_with fail
        refine (HL.out _ HP.out).mono ?_
        rintro e wH1 ⟨rfl, hb⟩
        have H1 := Lib.hid ((H0.out).step hb); clear hb
        try clear x0 x1 x2 x3
        obtain ⟨x0, x1, x2, x3, _⟩ := H1.out.1
        go_wp2_with fail
        refine (HM.out _ (HP0.out.step H1.out.below)).mono ?_
        rintro e wH2 ⟨rfl, hb⟩
        have H2 := Lib.hid ((H1.out).step hb); clear hb
        try clear x0 x1 x2 x3
        obtain ⟨x0, x1, x2, x3, _⟩ := H2.out.1
        go_wp2_with fail
        refine (HE.out _ (HP0.out.step H2.out.below)).mono ?_
        rintro e wH3 ⟨rfl, hb⟩
        have H3 := Lib.hid ((H2.out).step hb); clear hb
        try clear x0 x1 x2 x3
        obtain ⟨x0, x1, x2, x3, _⟩ := H3.out.1
        obtain ⟨y0, y1, y2, y3, _⟩ := H3.out.2.1
        go_wp2_with fail
        refine (HG.out _ (HP0.out.step ((H3.out.alloc _).alloc _).below)).mono ?_
        rintro e w4 ⟨rfl, hb4⟩
        have H4 := Lib.hid (HF.out _ _ _ H3.out hb4); clear hb4
        clear x0 x1 x2 x3
        obtain ⟨⟨u0, u1, u2, u3, _⟩, ⟨v0, _, v1, _, _⟩, hfour⟩ := H4.out
        clear hfour
        go_wp2_with fail
        any_goals (go_ret; exact ⟨ret_bool (by rw [HR.out]; simp [*]), (H4.out.2.2 _ _).below⟩)
        all_goals
          refine (HB1.out _).mono ?_
          rintro e wH5 ⟨rfl, hb⟩
          have H5 := Lib.hid ((H4.out.2.2 _ _).step hb); clear hb
          try clear x0 x1 x2 x3 x4 x5 x6 x7
          obtain ⟨x0, x1, x2, x3, x4, x5, x6, x7, _⟩ := H5.out.1
          go_wp2_with fail
          refine (HB2.out _).mono ?_
          rintro e wH6 ⟨rfl, hb⟩
          have H6 := Lib.hid ((H5.out).step hb); clear hb
          try clear x0 x1 x2 x3 x4 x5 x6 x7
          obtain ⟨x0, x1, x2, x3, x4, x5, x6, x7, _⟩ := H6.out.1
          go_wp2_with fail
          refine (HS1.out _).mono ?_
          rintro e wH7 ⟨rfl, hb⟩
          have H7 := Lib.hid ((H6.out).step hb); clear hb
          try clear x0 x1 x2 x3 x4 x5 x6 x7
          obtain ⟨x0, x1, x2, x3, x4, x5, x6, x7, _⟩ := H7.out.1
          go_wp2_with fail
          refine (HS2.out _).mono ?_
          rintro e wH8 ⟨rfl, hb⟩
          have H8 := Lib.hid ((H7.out).step hb); clear hb
          try clear x0 x1 x2 x3 x4 x5 x6 x7
          obtain ⟨x0, x1, x2, x3, x4, x5, x6, x7, _⟩ := H8.out.1
          go_wp2_with fail
          go_ret
          exact ⟨ret_bool (by rw [HR.out]; simp [*]), H8.out.below⟩
    · go_enter Tryz.func222, Tryz.ntmps222
      go_wp2_with fail
      refine (HL.out _ HP.out).mono ?_
      rintro e wH1 ⟨rfl, hb⟩
      have H1 := Lib.hid ((H0.out).step hb); clear hb
      try clear x0 x1 x2 x3
      obtain ⟨x0, x1, x2, x3, _⟩ := H1.out.1
      go_wp2_with fail
      refine (HM.out _ (HP0.out.step H1.out.below)).mono ?_
      rintro e wH2 ⟨rfl, hb⟩
      have H2 := Lib.hid ((H1.out).step hb); clear hb
      try clear x0 x1 x2 x3
      obtain ⟨x0, x1, x2, x3, _⟩ := H2.out.1
      go_wp2_with fail
      refine (HE.out _ (HP0.out.step H2.out.below)).mono ?_
      rintro e wH3 ⟨rfl, hb⟩
      have H3 := Lib.hid ((H2.out).step hb); clear hb
      try clear x0 x1 x2 x3
      obtain ⟨x0, x1, x2, x3, _⟩ := H3.out.1
      obtain ⟨y0, y1, y2, y3, _⟩ := H3.out.2.1
      go_wp2_with fail
      refine (HG.out _ (HP0.out.step ((H3.out.alloc _).alloc _).below)).mono ?_
      rintro e w4 ⟨rfl, hb4⟩
      have H4 := Lib.hid (HF.out _ _ _ H3.out hb4); clear hb4
      clear x0 x1 x2 x3
      obtain ⟨⟨u0, u1, u2, u3, _⟩, ⟨v0, _, v1, _, _⟩, hfour⟩ := H4.out
      clear hfour
      go_wp2_with fail
      any_goals (go_ret; exact ⟨ret_bool (by rw [HR.out]; simp [*]), (H4.out.2.2 _ _).below⟩)
      all_goals
        refine (HB1.out _).mono ?_
        rintro e wH5 ⟨rfl, hb⟩
        have H5 := Lib.hid ((H4.out.2.2 _ _).step hb); clear hb
        try clear x0 x1 x2 x3 x4 x5 x6 x7
        obtain ⟨x0, x1, x2, x3, x4, x5, x6, x7, _⟩ := H5.out.1
        go_wp2_with fail
        refine (HB2.out _).mono ?_
        rintro e wH6 ⟨rfl, hb⟩
        have H6 := Lib.hid ((H5.out).step hb); clear hb
        try clear x0 x1 x2 x3 x4 x5 x6 x7
        obtain ⟨x0, x1, x2, x3, x4, x5, x6, x7, _⟩ := H6.out.1
        go_wp2_with fail
        go_ret
        exact ⟨ret_bool (by rw [HR.out]; simp [*]), H6.out.below⟩
  · go_enter Tryz.func222, Tryz.ntmps222
    go_wp2_with fail
    refine (HL.out _ HP.out).mono ?_
    rintro e wH1 ⟨rfl, hb⟩
    have H1 := Lib.hid ((H0.out).step hb); clear hb
    try clear x0 x1 x2 x3
    obtain ⟨x0, x1, x2, x3, _⟩ := H1.out.1
    go_wp2_with fail
    refine (HM.out _ (HP0.out.step H1.out.below)).mono ?_
    rintro e wH2 ⟨rfl, hb⟩
    have H2 := Lib.hid ((H1.out).step hb); clear hb
    try clear x0 x1 x2 x3
    obtain ⟨x0, x1, x2, x3, _⟩ := H2.out.1
    go_wp2_with fail
    refine (HE.out _ (HP0.out.step H2.out.below)).mono ?_
    rintro e wH3 ⟨rfl, hb⟩
    have H3 := Lib.hid ((H2.out).step hb); clear hb
    try clear x0 x1 x2 x3
    obtain ⟨x0, x1, x2, x3, _⟩ := H3.out.1
    obtain ⟨y0, y1, y2, y3, _⟩ := H3.out.2.1
    go_wp2_with fail
    refine (HG.out _ (HP0.out.step ((H3.out.alloc _).alloc _).below)).mono ?_
    rintro e w4 ⟨rfl, hb4⟩
    have H4 := Lib.hid (HF.out _ _ _ H3.out hb4); clear hb4
    clear x0 x1 x2 x3
    obtain ⟨⟨u0, u1, u2, u3, _⟩, ⟨v0, _, v1, _, _⟩, hfour⟩ := H4.out
    clear hfour
    go_wp2_with fail
    any_goals (go_ret; exact ⟨ret_bool (by rw [HR.out]; simp [*]), (H4.out.2.2 _ _).below⟩)
    all_goals
      refine (HB1.out _).mono ?_
      rintro e wH5 ⟨rfl, hb⟩
      have H5 := Lib.hid ((H4.out.2.2 _ _).step hb); clear hb
      try clear x0 x1 x2 x3 x4 x5 x6 x7
      obtain ⟨x0, x1, x2, x3, x4, x5, x6, x7, _⟩ := H5.out.1
      go_wp2_with fail
      go_ret
      exact ⟨ret_bool (by rw [HR.out]; simp [*]), H5.out.below⟩
end Go.Proofs.YtepacoacalhdcaaGreat
