/-
  What the model's WindowOk returns.
-/
import Derived.Test.YtibgfbkepkjmbaaGreatG24
import Derived.Test.YtibgfbkepkjmbaaGreatG1
import Derived.LoopTactic
import Derived.Outline
import Derived.Deep.QuietTactic
import Derived.BigQuiet
namespace Go.Proofs.YtibgfbkepkjmbaaGreat
open Go.RowKit
set_option linter.unusedVariables false
set_option linter.unusedSimpArgs false

/-- A boxed window. -/
def BW (w : World) (vn vl : Value) : List (Nat × Nat × Value) := [(w.heap.size, 0, vn), (w.heap.size, 1, vl)]

theorem heldW (w : World) (vn vl : Value) (T : TypeId) : Held w (w.alloc (.cells #[vn, vl] T)) (BW w vn vl) := (Held.none_ w).new2 w.heap.size rfl [vn, vl] T

theorem held_more {w W : World} {fs gs : List (Nat × Nat × Value)} (h : Held w W fs) (hc : Cs W gs) (hb : Bs W.heap.size gs) : Held w W (fs ++ gs) :=
  ⟨h.1.append hc, h.2.1.append hb, h.2.2⟩

set_option maxRecDepth 100000 in
set_option maxHeartbeats 2000000 in
theorem specWin (ns ls : List Nd) (vn vl : Value) (w : World) (hn : Prs w vn ns) (hl : Prs w vl ls) :
    Calls Tryz.prog 82 #[.agg #[vn, vl]] w (BoolIs (winB ns ls) w) := by
  have hnl := hn.len
  have hll := hl.len
  have HN := Lib.hid hn
  have HL := Lib.hid hl
  have H0 := Lib.hid (heldW w vn vl 30)
  have HI := Lib.hid (specIn ns.length 1 12)
  obtain ⟨An, cn, rfl⟩ := prs_form2 hn
  obtain ⟨Al, cl, rfl⟩ := prs_form2 hl
  clear hn hl
  unfold BW at H0
  by_cases h1 : 1 ≤ ns.length ∧ ns.length ≤ 12
  case neg =>
    have e : inB (ns.length : Int) 1 12 = false := by
      cases h : inB (ns.length : Int) 1 12
      · rfl
      · rw [inB_iff] at h; exact absurd ⟨by omega, by omega⟩ h1
    rw [e] at HI
    have HZ := Lib.hid (winB_size (ns := ns) (ls := ls) fun k => h1 k.1)
    clear h1 e
    go_enter Tryz.func82, Tryz.ntmps82
    go_wp2_with fail
    refine (HI.out _).mono ?_
    rintro e w' ⟨rfl, rfl⟩
    go_wp2_with fail
    go_ret
    exact ⟨ret_bool HZ.out.symm, H0.out.below⟩
  have e : inB (ns.length : Int) 1 12 = true := by rw [inB_iff]; omega
  rw [e] at HI
  clear e
  by_cases h2 : ls.length ≤ 20
  case neg =>
    have HZ := Lib.hid (winB_size (ns := ns) (ls := ls) fun k => h2 k.2)
    go_enter Tryz.func82, Tryz.ntmps82
    go_wp2_with fail
    refine (HI.out _).mono ?_
    rintro e w' ⟨rfl, rfl⟩
    go_wp2_with fail
    go_ret
    exact ⟨ret_bool HZ.out.symm, H0.out.below⟩
  obtain ⟨h1a, h1b⟩ := h1
  go_enter Tryz.func82, Tryz.ntmps82
  go_wp2_with fail
  refine (HI.out _).mono ?_
  rintro e w' ⟨rfl, rfl⟩
  go_wp2_with fail
  go_loopw [3] (fun i wr => ∃ k : Nat, k ≤ ns.length ∧ i = .int .i64 k ∧ NodesOk ns k ∧ Held w wr [(w.heap.size, 0, .slice An ns.length cn), (w.heap.size, 1, .slice Al ls.length cl)]) (fun i _ => ns.length - (intOf i).toNat)
  case atStart => exact ⟨0, Nat.zero_le _, rfl, NodesOk.zero ns, H0.out⟩
  case round =>
    obtain ⟨k, hk, rfl, hok, hh⟩ := hrel
    have HO := Lib.hid hok; clear hok
    have H1 := Lib.hid hh; clear hh
    obtain ⟨x0, x1, _⟩ := H1.out.1
    by_cases hlt : k < ns.length
    · obtain ⟨b, o, c', he, hbl, hcs⟩ := prs_at2 (HN.out.step H1.out.below) hlt
      injection he with he1 he2 he3
      subst he1
      clear he2 he3
      have hck := hcs k hlt
      have HC := Lib.hid hcs; clear hcs
      have HK := Lib.hid (specNodeOk (atN ns k))
      have H2 := Lib.hid (held_more H1.out (P1_cs HC.out hlt) (P1_bs (k := k) hbl))
      unfold P1 at H2
      have HNK := Lib.hid (fun h => winB_node (ls := ls) hlt h)
      have HTW := Lib.hid (fun i hi h => winB_twice (ls := ls) (i := i) hlt hi h)
      have HSU := Lib.hid (fun h1 h2 => HO.out.succ h1 h2)
      have HEQ := Lib.hid (fun i => eqNd (atN ns i) (atN ns k))
      have HDE := Lib.hid (fun i => (show decide (atN ns i = atN ns k) = true ↔ atN ns i = atN ns k by simp))
      generalize hkn : okB (atN ns k) = kk at *
      have HKN := Lib.hid hkn; clear hkn
      obtain ⟨nk, hnk⟩ : ∃ n, n = atN ns k := ⟨_, rfl⟩
      rw [← hnk] at HK H2 HEQ HDE
      have HNN := Lib.hid hnk; clear hnk
      obtain ⟨kx, ky⟩ := nk
      unfold Nd.val at HK
      simp only at HK H2 HEQ
      clear hck x0 x1
      obtain ⟨x0, x1, x2, x3, _⟩ := H2.out.1
      have hz1 : (k : Int) < (ns.length : Int) := by omega
      cases kk
      · go_wp2_with fail
        refine (HK.out _).mono ?_
        rintro e wH3 ⟨rfl, hb⟩
        have H3 := Lib.hid ((H2.out).step hb); clear hb
        try clear x0 x1 x2 x3
        obtain ⟨x0, x1, x2, x3, _⟩ := H3.out.1
        go_wp2_with fail
        go_ret
        exact ⟨ret_bool (HNK.out trivial).symm, H3.out.below⟩
      · go_wp2_with fail
        refine (HK.out _).mono ?_
        rintro e wH3 ⟨rfl, hb⟩
        have H3 := Lib.hid ((H2.out).step hb); clear hb
        try clear x0 x1 x2 x3
        obtain ⟨x0, x1, x2, x3, _⟩ := H3.out.1
        go_wp2_with fail
        clear x0 x1 x2 x3
        go_loopw [4] (fun i wr => ∃ i' : Nat, i' ≤ k ∧ i = .int .i64 i' ∧ (∀ j, j < i' → atN ns j ≠ atN ns k) ∧ Held w wr [(w.heap.size, 0, .slice (some ⟨b, o, none⟩) ns.length cn), (w.heap.size, 1, .slice Al ls.length cl), (b, o + k * 2, .int .i64 kx), (b, o + k * 2 + 1, .int .i64 ky)]) (fun i _ => k - (intOf i).toNat)
        case atStart => exact ⟨0, Nat.zero_le _, rfl, fun j hj => by omega, H3.out⟩
        case round =>
          obtain ⟨i, hi, rfl, hne, hh⟩ := hrel
          have HNE := Lib.hid hne; clear hne
          have H4 := Lib.hid hh; clear hh
          obtain ⟨x0, x1, x2, x3, _⟩ := H4.out.1
          by_cases hik : i < k
          · obtain ⟨b', o', c'', he, hbl', hcs⟩ := prs_at2 (HN.out.step H4.out.below) (k := i) (by omega)
            injection he with he1 he2 he3
            injection he1 with he1
            injection he1 with he4 he5 he6
            subst he4
            subst he5
            clear he2 he3 he6
            obtain ⟨ci0, ci1⟩ := hcs i (by omega)
            have q := HEQ.out i
            have HTWI := Lib.hid (HTW.out i hik)
            have hze : (decide (atN ns i = atN ns k) = true) = (atN ns i = atN ns k) := by simp
            rw [← HNN.out] at hze
            have HZE := Lib.hid hze; clear hze
            have HSN := Lib.hid (fun (h : atN ns i ≠ atN ns k) => (fun j (hj : j < i + 1) => (if e : j = i then e ▸ h else HNE.out j (by omega)) : ∀ j, j < i + 1 → atN ns j ≠ atN ns k))
            generalize hd : decide (atN ns i = ⟨kx, ky⟩) = d at *
            have HD := Lib.hid hd; clear hd
            clear hcs hbl'
            have hz3 : (i : Int) < (ns.length : Int) := by omega
            have hz4 : (0 : Int) ≤ i := by omega
            have hz5 : (0 : Int) ≤ k := by omega
            generalize hni : atN ns i = ni at *
            have HNI := Lib.hid hni; clear hni
            obtain ⟨ix, iy⟩ := ni
            simp only at q ci0 ci1
            cases d
            · go_wp2_with fail
              go_quiet (fail)
              go_wp2_with fail
              exact ⟨⟨i + 1, by omega, by go_num, HSN.out (by rw [← HNN.out]; exact of_decide_eq_false HD.out), H4.out.drewN _⟩, by simp [intOf]; omega⟩
            · go_wp2_with fail
              go_quiet (fail)
              go_wp2_with fail
              go_ret
              exact ⟨ret_bool (HTWI.out (by rw [← HNN.out]; exact of_decide_eq_true HD.out)).symm, (H4.out.drewN _).below⟩
          · obtain rfl : i = k := by omega
            go_wp2_with fail
            exact ⟨⟨i + 1, by omega, by go_num, HSU.out trivial (fun j hj => HNE.out j hj), H4.out.only (fun ⟨a, b, _⟩ => ⟨a, b, trivial⟩) (fun ⟨a, b, _⟩ => ⟨a, b, trivial⟩)⟩, by simp [intOf]; omega⟩
    · obtain rfl : k = ns.length := by omega
      clear hlt hk
      go_wp2_with fail
      clear x0 x1
      go_loopw [5] (fun i wr => ∃ m : Nat, m ≤ ls.length ∧ i = .int .i64 m ∧ LeadsOk ns ls m ∧ Held w wr [(w.heap.size, 0, .slice An ns.length cn), (w.heap.size, 1, .slice Al ls.length cl)]) (fun i _ => ls.length - (intOf i).toNat)
      case atStart => exact ⟨0, Nat.zero_le _, rfl, LeadsOk.zero ns ls, H1.out⟩
      case round =>
        clear H1
        obtain ⟨m, hm, rfl, hlk, hh⟩ := hrel
        have HLK := Lib.hid hlk; clear hlk
        have H1 := Lib.hid hh; clear hh
        obtain ⟨x0, x1, _⟩ := H1.out.1
        by_cases hlt : m < ls.length
        · obtain ⟨b2, o2, c', he, hbl, hcs⟩ := prs_at2 (HL.out.step H1.out.below) hlt
          injection he with he1 he2 he3
          subst he1
          clear he2 he3
          have H2 := Lib.hid (held_more H1.out (P1_cs hcs hlt) (P1_bs (k := m) hbl))
          unfold P1 at H2
          clear hcs
          have HLO := Lib.hid (fun w hv => specLeadOk ns (.slice An ns.length cn) (atN ls m) w hv)
          have HNL := Lib.hid (fun h => winB_lead (ns := ns) hlt h)
          have HSU := Lib.hid (fun h1 h2 h3 => HLK.out.succ h1 h2 h3)
          have HCR := Lib.hid (fun i w hv => specCross ns (.slice An ns.length cn) (atN ls i) (atN ls m) w hv)
          have HON := Lib.hid (fun i w hv => specOn ns (.slice An ns.length cn) (atN ls m) (atN ns i) w hv)
          have HNC := Lib.hid (fun i hi h => winB_cross (ns := ns) (ls := ls) (i := i) hlt hi h)
          have HNO := Lib.hid (fun i hi hx hy h => winB_on (ns := ns) (ls := ls) (k := m) (i := i) hlt hi hx hy h)
          generalize leadOkB ns (atN ls m) = lk at *
          generalize hlm : atN ls m = l at *
          have HLM := Lib.hid hlm; clear hlm
          obtain ⟨lx, ly⟩ := l
          unfold Nd.val at HLO HCR HON
          simp only at HLO HCR HON H2 HSU HNO
          clear x0 x1
          obtain ⟨x0, x1, x2, x3, _⟩ := H2.out.1
          have hz1 : (m : Int) < (ls.length : Int) := by omega
          have H3 := Lib.hid ((H2.out.only (fun ⟨a, b, _⟩ => ⟨a, b, trivial⟩) (fun ⟨a, b, _⟩ => ⟨a, b, trivial⟩) : Held w wr [(w.heap.size, 0, .slice An ns.length cn), (w.heap.size, 1, .slice (some ⟨b2, o2, none⟩) ls.length cl)]).new2 wr.heap.size rfl [.int .i64 lx, .int .i64 ly] 104)
          obtain ⟨y0, _, y2, _, _⟩ := H2.out.2.1
          cases lk
          · go_wp2_with fail
            refine (HLO.out _ (HN.out.step H3.out.below)).mono ?_
            rintro e wH4 ⟨rfl, hb⟩
            have H4 := Lib.hid ((H3.out).step hb); clear hb
            try clear x0 x1 x2 x3
            obtain ⟨x0, x1, x2, x3, _⟩ := H4.out.1
            go_wp2_with fail
            go_ret
            exact ⟨ret_bool (HNL.out trivial).symm, H4.out.below⟩
          · go_wp2_with fail
            refine (HLO.out _ (HN.out.step H3.out.below)).mono ?_
            rintro e wH4 ⟨rfl, hb⟩
            have H4 := Lib.hid ((H3.out).step hb); clear hb
            try clear x0 x1 x2 x3
            obtain ⟨x0, x1, x2, x3, _⟩ := H4.out.1
            go_wp2_with fail
            generalize wr.heap.size = B at *
            clear x0 x1 x2 x3
            go_loopw [7] (fun i wr => ∃ i' : Nat, i' ≤ m ∧ i = .int .i64 i' ∧ (∀ j, j < i' → crossB ns (atN ls j) ⟨lx, ly⟩ = false) ∧ Held w wr [(B, 0, .int .i64 lx), (B, 1, .int .i64 ly), (w.heap.size, 0, .slice An ns.length cn), (w.heap.size, 1, .slice (some ⟨b2, o2, none⟩) ls.length cl)]) (fun i _ => m - (intOf i).toNat)
            case atStart => exact ⟨0, Nat.zero_le _, rfl, fun j hj => by omega, H4.out⟩
            case round =>
              clear H3 H4
              obtain ⟨i, hi, rfl, hne, hh⟩ := hrel
              have HNE := Lib.hid hne; clear hne
              have H4 := Lib.hid hh; clear hh
              obtain ⟨x0, x1, x2, x3, _⟩ := H4.out.1
              by_cases him : i < m
              · obtain ⟨b', o', c'', he, hbl', hcs⟩ := prs_at2 (HL.out.step H4.out.below) (k := i) (by omega)
                injection he with he1 he2 he3
                injection he1 with he1
                injection he1 with he4 he5 he6
                subst he4
                subst he5
                clear he2 he3 he6
                have H5 := Lib.hid (held_more H4.out (P1_cs hcs (k := i) (by omega)) (P1_bs (k := i) hbl'))
                unfold P1 at H5
                clear hcs
                have HX := Lib.hid (HCR.out i)
                have HXN := Lib.hid (HNC.out i him)
                have HSN := Lib.hid (fun (h : crossB ns (atN ls i) ⟨lx, ly⟩ = false) => (fun j (hj : j < i + 1) => (if e : j = i then e ▸ h else HNE.out j (by omega)) : ∀ j, j < i + 1 → crossB ns (atN ls j) ⟨lx, ly⟩ = false))
                generalize crossB ns (atN ls i) ⟨lx, ly⟩ = d at *
                generalize atN ls i = li at *
                obtain ⟨ix, iy⟩ := li
                simp only at H5 HX
                clear x0 x1 x2 x3
                have hz3 : (i : Int) < (ls.length : Int) := by omega
                have hz4 : (0 : Int) ≤ i := by omega
                cases d
                · obtain ⟨x0, x1, x2, x3, x4, x5, _⟩ := H5.out.1
                  go_wp2_with fail
                  refine regionD (S := fun W => Held _ W [(B, 0, .int .i64 (lx)), (B, 1, .int .i64 (ly)), (w.heap.size, 0, .slice An ns.length cn), (w.heap.size, 1, .slice (some ⟨b2, o2, none⟩) ls.length cl), (b2, o2 + i * 2, .int .i64 (ix)), (b2, o2 + i * 2 + 1, .int .i64 (iy))]) (by kernel_rfl) H5.out.drew ?_
                  iterate 9 (refine takeT (v := ?_) rfl (by kernel_rfl) (by kernel_rfl) (by kernel_rfl) ?_ ?_; rotate_left; (first | (refine Or.inr ⟨by rfl, ?_⟩; with_reducible rfl) | (refine Or.inl ⟨by rfl, fun W hS => detRes_value (w' := W) ?_ hS⟩; obtain ⟨x0, x1, x2, x3, x4, x5, _⟩ := hS.1; go_simp; first | done | with_reducible rfl) | (refine Or.inl ⟨by rfl, fun W hS => ?_⟩; refine detRes_call (w' := W) (f := ?_) (args := ?_) ?_ ?_; rotate_left 2; (go_simp; (refine ⟨?_, ?_⟩ <;> with_reducible rfl)); (first | (with_reducible refine (HX.out _ (HN.out.step hS.below)).mono ?_) | fail); (first | (rintro e wn ⟨rfl, hb⟩; refine ⟨?_, hS.step hb⟩; with_reducible rfl) | (rintro e wn ⟨rfl, rfl⟩; refine ⟨?_, hS⟩; with_reducible rfl) | fail)) | fail); (simp only [Act.put, List.setIfInBounds_toArray, List.set_cons_zero, List.set_cons_succ]))
                  refine doneD (by kernel_rfl) fun wH6 HS => ?_
                  have H6 := Lib.hid HS; clear HS
                  try clear x0 x1 x2 x3 x4 x5
                  obtain ⟨x0, x1, x2, x3, x4, x5, _⟩ := H6.out.1
                  go_wp2_with fail
                  exact ⟨⟨i + 1, by omega, by go_num, HSN.out trivial, H6.out.only (fun ⟨a, b, c, d, _⟩ => ⟨a, b, c, d, trivial⟩) (fun ⟨a, b, c, d, _⟩ => ⟨a, b, c, d, trivial⟩)⟩, by simp [intOf]; omega⟩
                · obtain ⟨x0, x1, x2, x3, x4, x5, _⟩ := H5.out.1
                  go_wp2_with fail
                  refine regionD (S := fun W => Held _ W [(B, 0, .int .i64 (lx)), (B, 1, .int .i64 (ly)), (w.heap.size, 0, .slice An ns.length cn), (w.heap.size, 1, .slice (some ⟨b2, o2, none⟩) ls.length cl), (b2, o2 + i * 2, .int .i64 (ix)), (b2, o2 + i * 2 + 1, .int .i64 (iy))]) (by kernel_rfl) H5.out.drew ?_
                  iterate 9 (refine takeT (v := ?_) rfl (by kernel_rfl) (by kernel_rfl) (by kernel_rfl) ?_ ?_; rotate_left; (first | (refine Or.inr ⟨by rfl, ?_⟩; with_reducible rfl) | (refine Or.inl ⟨by rfl, fun W hS => detRes_value (w' := W) ?_ hS⟩; obtain ⟨x0, x1, x2, x3, x4, x5, _⟩ := hS.1; go_simp; first | done | with_reducible rfl) | (refine Or.inl ⟨by rfl, fun W hS => ?_⟩; refine detRes_call (w' := W) (f := ?_) (args := ?_) ?_ ?_; rotate_left 2; (go_simp; (refine ⟨?_, ?_⟩ <;> with_reducible rfl)); (first | (with_reducible refine (HX.out _ (HN.out.step hS.below)).mono ?_) | fail); (first | (rintro e wn ⟨rfl, hb⟩; refine ⟨?_, hS.step hb⟩; with_reducible rfl) | (rintro e wn ⟨rfl, rfl⟩; refine ⟨?_, hS⟩; with_reducible rfl) | fail)) | fail); (simp only [Act.put, List.setIfInBounds_toArray, List.set_cons_zero, List.set_cons_succ]))
                  refine doneD (by kernel_rfl) fun wH6 HS => ?_
                  have H6 := Lib.hid HS; clear HS
                  try clear x0 x1 x2 x3 x4 x5
                  obtain ⟨x0, x1, x2, x3, x4, x5, _⟩ := H6.out.1
                  go_wp2_with fail
                  go_ret
                  exact ⟨ret_bool (HXN.out trivial).symm, H6.out.below⟩
              · obtain rfl : i = m := by omega
                clear hi him
                go_wp2_with fail
                clear x0 x1 x2 x3
                go_loopw [8] (fun i wr => ∃ i' : Nat, i' ≤ ns.length ∧ i = .int .i64 i' ∧ (∀ j : Nat, j < i' → (j : Int) ≠ lx → (j : Int) ≠ ly → onLeadB ns ⟨lx, ly⟩ (atN ns j) = false) ∧ Held w wr [(B, 0, .int .i64 lx), (B, 1, .int .i64 ly), (w.heap.size, 0, .slice An ns.length cn), (w.heap.size, 1, .slice (some ⟨b2, o2, none⟩) ls.length cl)]) (fun i _ => ns.length - (intOf i).toNat)
                case atStart => exact ⟨0, Nat.zero_le _, rfl, fun j hj => by omega, H4.out⟩
                case round =>
                  clear H4
                  obtain ⟨p, hp, rfl, hno, hh⟩ := hrel
                  have HNN := Lib.hid hno; clear hno
                  have H4 := Lib.hid hh; clear hh
                  obtain ⟨x0, x1, x2, x3, _⟩ := H4.out.1
                  by_cases hpn : p < ns.length
                  · obtain ⟨b', o', c'', he, hbl', hcs⟩ := prs_at2 (HN.out.step H4.out.below) (k := p) (by omega)
                    injection he with he1 he2 he3
                    subst he1
                    clear he2 he3
                    have H5 := Lib.hid (held_more H4.out (P1_cs hcs (k := p) (by omega)) (P1_bs (k := p) hbl'))
                    unfold P1 at H5
                    clear hcs
                    have HX := Lib.hid (HON.out p)
                    have HXN := Lib.hid (HNO.out p hpn)
                    have HSN := Lib.hid (fun (h : (p : Int) ≠ lx → (p : Int) ≠ ly → onLeadB ns ⟨lx, ly⟩ (atN ns p) = false) => (fun j (hj : j < p + 1) => (if e : j = p then e ▸ h else HNN.out j (by omega)) : ∀ j : Nat, j < p + 1 → (j : Int) ≠ lx → (j : Int) ≠ ly → onLeadB ns ⟨lx, ly⟩ (atN ns j) = false))
                    generalize onLeadB ns ⟨lx, ly⟩ (atN ns p) = d at *
                    generalize atN ns p = np at *
                    obtain ⟨ix, iy⟩ := np
                    simp only at H5 HX
                    clear x0 x1 x2 x3
                    have hz3 : (p : Int) < (ns.length : Int) := by omega
                    have hz4 : (0 : Int) ≤ p := by omega
                    by_cases e1 : (p : Int) = lx
                    · have HD := Lib.hid (fun (h : (p : Int) ≠ lx) (_ : (p : Int) ≠ ly) => (absurd e1 h : d = false))
                      have g1 : ((p : Int) == lx) = true := by simpa using e1
                      have g2 : ((p : Int) != lx) = false := by simpa using e1
                      have E1 := Lib.hid e1; clear e1
                      obtain ⟨x0, x1, x2, x3, x4, x5, _⟩ := H5.out.1
                      go_wp2_with fail
                      refine regionD (S := fun W => Held _ W [(B, 0, .int .i64 (lx)), (B, 1, .int .i64 (ly)), (w.heap.size, 0, .slice (some ⟨b', o', none⟩) ns.length cn), (w.heap.size, 1, .slice (some ⟨b2, o2, none⟩) ls.length cl), (b', o' + p * 2, .int .i64 (ix)), (b', o' + p * 2 + 1, .int .i64 (iy))]) (by kernel_rfl) H5.out.drew ?_
                      iterate 21 (refine takeT (v := ?_) rfl (by kernel_rfl) (by kernel_rfl) (by kernel_rfl) ?_ ?_; rotate_left; (first | (refine Or.inr ⟨by rfl, ?_⟩; with_reducible rfl) | (refine Or.inl ⟨by rfl, fun W hS => detRes_value (w' := W) ?_ hS⟩; obtain ⟨x0, x1, x2, x3, x4, x5, _⟩ := hS.1; go_simp; first | done | with_reducible rfl) | (refine Or.inl ⟨by rfl, fun W hS => ?_⟩; refine detRes_call (w' := W) (f := ?_) (args := ?_) ?_ ?_; rotate_left 2; (go_simp; (refine ⟨?_, ?_⟩ <;> with_reducible rfl)); (first | (with_reducible refine (HX.out _ (HN.out.step hS.below)).mono ?_) | fail); (first | (rintro e wn ⟨rfl, hb⟩; refine ⟨?_, hS.step hb⟩; with_reducible rfl) | (rintro e wn ⟨rfl, rfl⟩; refine ⟨?_, hS⟩; with_reducible rfl) | fail)) | fail); (simp only [Act.put, List.setIfInBounds_toArray, List.set_cons_zero, List.set_cons_succ]))
                      refine doneD (by kernel_rfl) fun wH6 HS => ?_
                      have H6 := Lib.hid HS; clear HS
                      try clear x0 x1 x2 x3 x4 x5
                      obtain ⟨x0, x1, x2, x3, x4, x5, _⟩ := H6.out.1
                      go_wp2_with fail
                      exact ⟨⟨p + 1, by omega, by go_num, HSN.out HD.out, H6.out.only (fun ⟨a, b, c, d, _⟩ => ⟨a, b, c, d, trivial⟩) (fun ⟨a, b, c, d, _⟩ => ⟨a, b, c, d, trivial⟩)⟩, by simp [intOf]; omega⟩
                    have g1 : ((p : Int) == lx) = false := by simpa using e1
                    have g2 : ((p : Int) != lx) = true := by simpa using e1
                    have E1 := Lib.hid e1; clear e1
                    by_cases e2 : (p : Int) = ly
                    · have HD := Lib.hid (fun (_ : (p : Int) ≠ lx) (h : (p : Int) ≠ ly) => (absurd e2 h : d = false))
                      have g3 : ((p : Int) == ly) = true := by simpa using e2
                      have g4 : ((p : Int) != ly) = false := by simpa using e2
                      have E2 := Lib.hid e2; clear e2
                      obtain ⟨x0, x1, x2, x3, x4, x5, _⟩ := H5.out.1
                      go_wp2_with fail
                      refine regionD (S := fun W => Held _ W [(B, 0, .int .i64 (lx)), (B, 1, .int .i64 (ly)), (w.heap.size, 0, .slice (some ⟨b', o', none⟩) ns.length cn), (w.heap.size, 1, .slice (some ⟨b2, o2, none⟩) ls.length cl), (b', o' + p * 2, .int .i64 (ix)), (b', o' + p * 2 + 1, .int .i64 (iy))]) (by kernel_rfl) H5.out.drew ?_
                      iterate 21 (refine takeT (v := ?_) rfl (by kernel_rfl) (by kernel_rfl) (by kernel_rfl) ?_ ?_; rotate_left; (first | (refine Or.inr ⟨by rfl, ?_⟩; with_reducible rfl) | (refine Or.inl ⟨by rfl, fun W hS => detRes_value (w' := W) ?_ hS⟩; obtain ⟨x0, x1, x2, x3, x4, x5, _⟩ := hS.1; go_simp; first | done | with_reducible rfl) | (refine Or.inl ⟨by rfl, fun W hS => ?_⟩; refine detRes_call (w' := W) (f := ?_) (args := ?_) ?_ ?_; rotate_left 2; (go_simp; (refine ⟨?_, ?_⟩ <;> with_reducible rfl)); (first | (with_reducible refine (HX.out _ (HN.out.step hS.below)).mono ?_) | fail); (first | (rintro e wn ⟨rfl, hb⟩; refine ⟨?_, hS.step hb⟩; with_reducible rfl) | (rintro e wn ⟨rfl, rfl⟩; refine ⟨?_, hS⟩; with_reducible rfl) | fail)) | fail); (simp only [Act.put, List.setIfInBounds_toArray, List.set_cons_zero, List.set_cons_succ]))
                      refine doneD (by kernel_rfl) fun wH6 HS => ?_
                      have H6 := Lib.hid HS; clear HS
                      try clear x0 x1 x2 x3 x4 x5
                      obtain ⟨x0, x1, x2, x3, x4, x5, _⟩ := H6.out.1
                      go_wp2_with fail
                      exact ⟨⟨p + 1, by omega, by go_num, HSN.out HD.out, H6.out.only (fun ⟨a, b, c, d, _⟩ => ⟨a, b, c, d, trivial⟩) (fun ⟨a, b, c, d, _⟩ => ⟨a, b, c, d, trivial⟩)⟩, by simp [intOf]; omega⟩
                    have g3 : ((p : Int) == ly) = false := by simpa using e2
                    have g4 : ((p : Int) != ly) = true := by simpa using e2
                    have E2 := Lib.hid e2; clear e2
                    cases d
                    · have HD := Lib.hid (fun (_ : (p : Int) ≠ lx) (_ : (p : Int) ≠ ly) => (rfl : false = false))
                      obtain ⟨x0, x1, x2, x3, x4, x5, _⟩ := H5.out.1
                      go_wp2_with fail
                      refine regionD (S := fun W => Held _ W [(B, 0, .int .i64 (lx)), (B, 1, .int .i64 (ly)), (w.heap.size, 0, .slice (some ⟨b', o', none⟩) ns.length cn), (w.heap.size, 1, .slice (some ⟨b2, o2, none⟩) ls.length cl), (b', o' + p * 2, .int .i64 (ix)), (b', o' + p * 2 + 1, .int .i64 (iy))]) (by kernel_rfl) H5.out.drew ?_
                      iterate 21 (refine takeT (v := ?_) rfl (by kernel_rfl) (by kernel_rfl) (by kernel_rfl) ?_ ?_; rotate_left; (first | (refine Or.inr ⟨by rfl, ?_⟩; with_reducible rfl) | (refine Or.inl ⟨by rfl, fun W hS => detRes_value (w' := W) ?_ hS⟩; obtain ⟨x0, x1, x2, x3, x4, x5, _⟩ := hS.1; go_simp; first | done | with_reducible rfl) | (refine Or.inl ⟨by rfl, fun W hS => ?_⟩; refine detRes_call (w' := W) (f := ?_) (args := ?_) ?_ ?_; rotate_left 2; (go_simp; (refine ⟨?_, ?_⟩ <;> with_reducible rfl)); (first | (with_reducible refine (HX.out _ (HN.out.step hS.below)).mono ?_) | fail); (first | (rintro e wn ⟨rfl, hb⟩; refine ⟨?_, hS.step hb⟩; with_reducible rfl) | (rintro e wn ⟨rfl, rfl⟩; refine ⟨?_, hS⟩; with_reducible rfl) | fail)) | fail); (simp only [Act.put, List.setIfInBounds_toArray, List.set_cons_zero, List.set_cons_succ]))
                      refine doneD (by kernel_rfl) fun wH6 HS => ?_
                      have H6 := Lib.hid HS; clear HS
                      try clear x0 x1 x2 x3 x4 x5
                      obtain ⟨x0, x1, x2, x3, x4, x5, _⟩ := H6.out.1
                      go_wp2_with fail
                      exact ⟨⟨p + 1, by omega, by go_num, HSN.out HD.out, H6.out.only (fun ⟨a, b, c, d, _⟩ => ⟨a, b, c, d, trivial⟩) (fun ⟨a, b, c, d, _⟩ => ⟨a, b, c, d, trivial⟩)⟩, by simp [intOf]; omega⟩
                    · obtain ⟨x0, x1, x2, x3, x4, x5, _⟩ := H5.out.1
                      go_wp2_with fail
                      refine regionD (S := fun W => Held _ W [(B, 0, .int .i64 (lx)), (B, 1, .int .i64 (ly)), (w.heap.size, 0, .slice (some ⟨b', o', none⟩) ns.length cn), (w.heap.size, 1, .slice (some ⟨b2, o2, none⟩) ls.length cl), (b', o' + p * 2, .int .i64 (ix)), (b', o' + p * 2 + 1, .int .i64 (iy))]) (by kernel_rfl) H5.out.drew ?_
                      iterate 21 (refine takeT (v := ?_) rfl (by kernel_rfl) (by kernel_rfl) (by kernel_rfl) ?_ ?_; rotate_left; (first | (refine Or.inr ⟨by rfl, ?_⟩; with_reducible rfl) | (refine Or.inl ⟨by rfl, fun W hS => detRes_value (w' := W) ?_ hS⟩; obtain ⟨x0, x1, x2, x3, x4, x5, _⟩ := hS.1; go_simp; first | done | with_reducible rfl) | (refine Or.inl ⟨by rfl, fun W hS => ?_⟩; refine detRes_call (w' := W) (f := ?_) (args := ?_) ?_ ?_; rotate_left 2; (go_simp; (refine ⟨?_, ?_⟩ <;> with_reducible rfl)); (first | (with_reducible refine (HX.out _ (HN.out.step hS.below)).mono ?_) | fail); (first | (rintro e wn ⟨rfl, hb⟩; refine ⟨?_, hS.step hb⟩; with_reducible rfl) | (rintro e wn ⟨rfl, rfl⟩; refine ⟨?_, hS⟩; with_reducible rfl) | fail)) | fail); (simp only [Act.put, List.setIfInBounds_toArray, List.set_cons_zero, List.set_cons_succ]))
                      refine doneD (by kernel_rfl) fun wH6 HS => ?_
                      have H6 := Lib.hid HS; clear HS
                      try clear x0 x1 x2 x3 x4 x5
                      obtain ⟨x0, x1, x2, x3, x4, x5, _⟩ := H6.out.1
                      go_wp2_with fail
                      go_ret
                      exact ⟨ret_bool (HXN.out E1.out E2.out trivial).symm, H6.out.below⟩
                  · obtain rfl : p = ns.length := by omega
                    go_wp2_with fail
                    exact ⟨⟨i + 1, by omega, by go_num, HSU.out trivial (fun j hj => HNE.out j hj) (fun j hj hx hy => HNN.out j hj hx hy), H4.out.only (fun ⟨_, _, a, b, _⟩ => ⟨a, b, trivial⟩) (fun ⟨_, _, a, b, _⟩ => ⟨a, b, trivial⟩)⟩, by simp [intOf]; omega⟩
        · obtain rfl : m = ls.length := by omega
          go_wp2_with fail
          go_ret
          exact ⟨ret_bool (winB_yes ⟨⟨⟨h1a, h1b⟩, h2⟩, HO.out, HLK.out⟩).symm, H1.out.below⟩
end Go.Proofs.YtibgfbkepkjmbaaGreat
