/-
  Which sheets with flaws are valid; which places are clear: of the program and of the model.
-/
import Derived.Test.YtfppnaknnijobabFlw
namespace Go.Proofs.Ytfppnaknnijobab
open Go.RowKit
set_option linter.unusedVariables false
set_option linter.unusedSimpArgs false

theorem way0 {xs : List Nd} (h : PrsIn xs) {k : Nat} (hk : k < xs.length) : Way64 ⟨0, 0⟩ (atN xs k) := by
  have := h k hk
  unfold Way64
  simp only
  omega

set_option maxRecDepth 100000 in
theorem implFlw (s : Nd) (xs : List Nd) (v : Value) (w : World) (hv : Prs w v xs) (hb : PrsIn xs) :
    Calls Try.prog 90 #[.agg #[.int .i64 s.x, .int .i64 s.y, v]] w (BoolIs (flwB s xs) w) := by
  have hlen := hv.len
  have HN := Lib.hid hv
  obtain ⟨A, c, rfl⟩ := prs_form2 hv
  clear hv
  have HR := Lib.hid (flwB_iff s xs)
  have HNO := Lib.hid (fun h => flwB_no (s := s) (xs := xs) h)
  have HSH := Lib.hid (implSheet s)
  have HCV := Lib.hid (fun k (hk : k < xs.length) w => implCov ⟨0, 0⟩ s (atN xs k) w (way0 hb hk))
  generalize hd : shB s = d at *
  have HD := Lib.hid hd; clear hd
  generalize flwB s xs = r at *
  have H0 := Lib.hid ((Held.none_ w).new2 w.heap.size rfl [.int .i64 s.x, .int .i64 s.y, .slice A xs.length c] 75)
  simp only [newFs, List.cons_append, List.nil_append, List.append_nil] at H0
  obtain ⟨sx, sy⟩ := s
  unfold Nd.val at HSH HCV
  simp only at HSH HCV H0 ⊢
  go_enter Try.func90, Try.ntmps90
  obtain ⟨x0, x1, x2, _⟩ := H0.out.1
  go_wp2_with fail
  refine (HSH.out _).mono ?_
  rintro e w1 ⟨rfl, hb1⟩
  have H1 := Lib.hid (H0.out.step hb1); clear hb1 x0 x1 x2
  obtain ⟨x0, x1, x2, _⟩ := H1.out.1
  cases d
  · have HRB := Lib.hid (HNO.out (fun h => by have h1 := h.sh; rw [HD.out] at h1; cases h1))
    go_wp2_with fail
    go_ret
    exact ⟨ret_bool HRB.out.symm, H1.out.below⟩
  by_cases h12 : 12 < xs.length
  · have HRB := Lib.hid (HNO.out (fun h => by have := h.few; omega))
    have h12i : (12 : Int) < (xs.length : Int) := by omega
    go_wp2_with fail
    go_ret
    exact ⟨ret_bool HRB.out.symm, H1.out.below⟩
  have H12 := Lib.hid h12
  have h12i : ¬ (12 : Int) < (xs.length : Int) := by omega
  clear h12
  go_wp2_with fail
  clear x0 x1 x2
  go_loopw [18] (fun i wr => ∃ m : Nat, m ≤ xs.length ∧ i = .int .i64 m ∧ (∀ j, j < m → covB ⟨0, 0⟩ ⟨sx, sy⟩ (atN xs j) = true) ∧ Held w wr [(w.heap.size, 0, .int .i64 sx), (w.heap.size, 0 + 1, .int .i64 sy), (w.heap.size, 0 + 1 + 1, .slice A xs.length c)]) (fun i _ => xs.length - (intOf i).toNat)
  case atStart => exact ⟨0, Nat.zero_le _, rfl, fun j hj => by omega, H1.out⟩
  case round =>
    clear H0 H1
    obtain ⟨m, hm, rfl, ha, hh⟩ := hrel
    have HA := Lib.hid ha; clear ha
    have H1 := Lib.hid hh; clear hh
    have hz2 : (0 : Int) ≤ m := by omega
    obtain ⟨x0, x1, x2, _⟩ := H1.out.1
    by_cases hlt : m < xs.length
    · obtain ⟨bb, o, c', he, hbl, hcs⟩ := prs_at2 (HN.out.step H1.out.below) hlt
      injection he with he1 he2 he3
      subst he1
      obtain ⟨p0, p1⟩ := hcs m hlt
      clear hcs he2 he3
      have HC := Lib.hid (HCV.out m hlt)
      have HNN := Lib.hid (fun (h : covB ⟨0, 0⟩ ⟨sx, sy⟩ (atN xs m) = false) => HNO.out (fun hp => by have h1 := hp.on m hlt; rw [h] at h1; cases h1))
      have HNX := Lib.hid (fun (h : covB ⟨0, 0⟩ ⟨sx, sy⟩ (atN xs m) = true) => (fun j (hj : j < m + 1) => (if e : j = m then e ▸ h else HA.out j (by omega)) : ∀ j, j < m + 1 → covB ⟨0, 0⟩ ⟨sx, sy⟩ (atN xs j) = true))
      have hz1 : (m : Int) < (xs.length : Int) := by omega
      generalize covB ⟨0, 0⟩ ⟨sx, sy⟩ (atN xs m) = q at *
      generalize atN xs m = n at *
      obtain ⟨nx, ny⟩ := n
      simp only at HC p0 p1
      obtain ⟨y0, -⟩ := H1.out.2.1
      have H3 := Lib.hid (H1.out.new2 wr.heap.size rfl [.int .i64 nx, .int .i64 ny] 82)
      simp only [newFs, List.cons_append, List.nil_append, List.append_nil] at H3
      go_wp2_with fail
      refine (HC.out _).mono ?_
      rintro e w4 ⟨rfl, hb4⟩
      have H4 := Lib.hid (Held.step (show Held w _ [(w.heap.size, 0, .int .i64 sx), (w.heap.size, 0 + 1, .int .i64 sy), (w.heap.size, 0 + 1 + 1, .slice (some ⟨bb, o, none⟩) xs.length c)] from ⟨H3.out.1.2.2, H3.out.2.1.2.2, H3.out.below⟩) hb4)
      clear hb4 x0 x1 x2 p0 p1 y0
      cases q
      · have HRB := Lib.hid (HNN.out rfl)
        go_wp2_with fail
        go_ret
        exact ⟨ret_bool HRB.out.symm, H4.out.below⟩
      · have HP := Lib.hid (HNX.out rfl)
        go_wp2_with fail
        exact ⟨⟨m + 1, by omega, by go_num, HP.out, H4.out⟩, by simp [intOf]; omega⟩
    · obtain rfl : m = xs.length := by omega
      have HRB := Lib.hid (HR.out.2 ⟨HD.out, by have := H12.out; omega, HA.out⟩)
      go_wp2_with fail
      go_ret
      exact ⟨ret_bool HRB.out.symm, H1.out.below⟩

theorem implFlwOk (s : Nd) (xs : List Nd) (v : Value) (w : World) (hv : Prs w v xs) (hb : PrsIn xs) :
    Calls Try.prog 47 #[.agg #[.int .i64 s.x, .int .i64 s.y, v]] w (BoolIs (flwB s xs) w) := by
  have HA := Lib.hid (fun w h => implFlw s xs v w h hb)
  have HN := Lib.hid hv
  obtain ⟨A, c, rfl⟩ := prs_form2 hv
  clear hv
  generalize flwB s xs = r at *
  have H0 := Lib.hid ((Held.none_ w).new2 w.heap.size rfl [.int .i64 s.x, .int .i64 s.y, .slice A xs.length c] 75)
  simp only [newFs, List.cons_append, List.nil_append, List.append_nil] at H0
  go_enter Try.func47, Try.ntmps47
  obtain ⟨x0, x1, x2, _⟩ := H0.out.1
  go_wp2_with fail
  refine (HA.out _ (HN.out.step H0.out.below)).mono ?_
  rintro e wH1 ⟨rfl, hb⟩
  have H1 := Lib.hid ((H0.out).step hb); clear hb
  try clear x0 x1 x2
  obtain ⟨x0, x1, x2, _⟩ := H1.out.1
  go_wp2_with fail
  go_ret
  exact ⟨rfl, H1.out.below⟩

theorem flw_in {s : Nd} {xs : List Nd} (h : FlwP s xs) {k : Nat} (hk : k < xs.length) {a b : Int} (ha : shB s = true → a = s.x - 1) (hb : shB s = true → b = s.y - 1) : inB (atN xs k).x 0 a = true ∧ inB (atN xs k).y 0 b = true := by
  have h1 := (covB_iff _ _ _).1 (h.on k hk)
  simp only at h1
  rw [inB_iff, inB_iff, ha h.sh, hb h.sh]
  omega
theorem cov_of_in {s n : Nd} {a b : Int} (ha : a = s.x - 1) (hb : b = s.y - 1) (h1 : inB n.x 0 a = true) (h2 : inB n.y 0 b = true) : covB ⟨0, 0⟩ s n = true := by
  rw [inB_iff] at h1 h2
  rw [covB_iff]
  simp only
  omega
theorem sh_wrap {s : Nd} (h : shB s = true) : IntKind.i64.wrap (s.x - 1) = s.x - 1 ∧ IntKind.i64.wrap (s.y - 1) = s.y - 1 := by
  have := (shB_iff s).1 h
  exact ⟨IntWalk.i64_in _ (by omega), IntWalk.i64_in _ (by omega)⟩

set_option maxRecDepth 100000 in
set_option maxHeartbeats 1000000 in
theorem specFlw (s : Nd) (xs : List Nd) (v : Value) (w : World) (hv : Prs w v xs) :
    Calls Try.prog 45 #[.agg #[.int .i64 s.x, .int .i64 s.y, v]] w (BoolIs (flwB s xs) w) := by
  have hlen := hv.len
  have HN := Lib.hid hv
  obtain ⟨A, c, rfl⟩ := prs_form2 hv
  clear hv
  have HR := Lib.hid (flwB_iff s xs)
  have HNO := Lib.hid (fun h => flwB_no (s := s) (xs := xs) h)
  have HSH := Lib.hid (specSheetOk s)
  obtain ⟨a, ea⟩ : ∃ a, IntKind.i64.wrap (s.x - 1) = a := ⟨_, rfl⟩
  obtain ⟨b, eb⟩ : ∃ b, IntKind.i64.wrap (s.y - 1) = b := ⟨_, rfl⟩
  have HEA := Lib.hid (fun (h : shB s = true) => (show a = s.x - 1 from ea.symm.trans (sh_wrap h).1))
  have HEB := Lib.hid (fun (h : shB s = true) => (show b = s.y - 1 from eb.symm.trans (sh_wrap h).2))
  generalize hd : shB s = d at *
  have HD := Lib.hid hd; clear hd
  have HFI := Lib.hid (fun (h : FlwP s xs) k (hk : k < xs.length) => flw_in h hk (a := a) (b := b) (fun hs => HEA.out (HD.out.symm.trans hs)) (fun hs => HEB.out (HD.out.symm.trans hs)))
  have HCO := Lib.hid (fun (h : d = true) n h1 h2 => cov_of_in (s := s) (n := n) (HEA.out h) (HEB.out h) h1 h2)
  generalize flwB s xs = r at *
  have H0 := Lib.hid ((Held.none_ w).new2 w.heap.size rfl [.int .i64 s.x, .int .i64 s.y, .slice A xs.length c] 75)
  simp only [newFs, List.cons_append, List.nil_append, List.append_nil] at H0
  obtain ⟨sx, sy⟩ := s
  unfold Nd.val at HSH
  simp only at HSH H0 ea eb ⊢
  go_enter Try.func45, Try.ntmps45
  obtain ⟨x0, x1, x2, _⟩ := H0.out.1
  go_wp2_with fail
  clear x0 x1 x2
  go_loopw [3] (fun i wr => ∃ m : Nat, m ≤ xs.length ∧ i = .int .i64 m ∧ (d = true → ∀ j, j < m → covB ⟨0, 0⟩ ⟨sx, sy⟩ (atN xs j) = true) ∧ Held w wr [(w.heap.size, 0, .int .i64 sx), (w.heap.size, 1, .int .i64 sy), (w.heap.size, 2, .slice A xs.length c)]) (fun i _ => xs.length - (intOf i).toNat)
  case atStart => exact ⟨0, Nat.zero_le _, rfl, fun _ j hj => by omega, H0.out⟩
  case round =>
    clear H0
    obtain ⟨m, hm, rfl, ha, hh⟩ := hrel
    have HA := Lib.hid ha; clear ha
    have H1 := Lib.hid hh; clear hh
    have hz2 : (0 : Int) ≤ m := by omega
    obtain ⟨x0, x1, x2, _⟩ := H1.out.1
    by_cases hlt : m < xs.length
    · obtain ⟨bb, o, c', he, hbl, hcs⟩ := prs_at2 (HN.out.step H1.out.below) hlt
      injection he with he1 he2 he3
      subst he1
      obtain ⟨p0, p1⟩ := hcs m hlt
      clear hcs he2 he3
      have HX := Lib.hid (specInB (atN xs m).x 0 a)
      have HY := Lib.hid (specInB (atN xs m).y 0 b)
      have HFM := Lib.hid (fun (h : FlwP ⟨sx, sy⟩ xs) => HFI.out h m hlt)
      have HCM := Lib.hid (fun h h1 h2 => HCO.out h (atN xs m) h1 h2)
      have HNX := Lib.hid (fun (h : d = true → covB ⟨0, 0⟩ ⟨sx, sy⟩ (atN xs m) = true) => (fun hd j (hj : j < m + 1) => (if e : j = m then e ▸ h hd else HA.out hd j (by omega)) : d = true → ∀ j, j < m + 1 → covB ⟨0, 0⟩ ⟨sx, sy⟩ (atN xs j) = true))
      have hz1 : (m : Int) < (xs.length : Int) := by omega
      generalize inB (atN xs m).x 0 a = d1 at *
      generalize inB (atN xs m).y 0 b = d2 at *
      generalize covB ⟨0, 0⟩ ⟨sx, sy⟩ (atN xs m) = q at *
      generalize atN xs m = n at *
      obtain ⟨nx, ny⟩ := n
      simp only at HX HY p0 p1
      have H2 := Lib.hid (show Held wr wr [(bb, o + m * 2, .int .i64 nx), (bb, o + m * 2 + 1, .int .i64 ny), (w.heap.size, 0, .int .i64 sx), (w.heap.size, 1, .int .i64 sy), (w.heap.size, 2, .slice (some ⟨bb, o, none⟩) xs.length c)] from ⟨⟨p0, p1, H1.out.1⟩, ⟨hbl, hbl, H1.out.2.1⟩, Below.refl _ _⟩)
      clear p0 p1
      have hsz := H1.out.below.size
      cases d1
      · have HRB := Lib.hid (HNO.out (fun h => by have h1 := (HFM.out h).1; cases h1))
        go_wp2_with fail
        clear x0 x1 x2
        refine regionD (S := fun W => Held _ W [(bb, o + m * 2, .int .i64 (nx)), (bb, o + m * 2 + 1, .int .i64 (ny)), (w.heap.size, 0, .int .i64 (sx)), (w.heap.size, 1, .int .i64 (sy)), (w.heap.size, 2, .slice (some ⟨bb, o, none⟩) xs.length c)]) (by kernel_rfl) H2.out.drew ?_
        iterate 26 (refine takeT (v := ?_) rfl (by kernel_rfl) (by kernel_rfl) (by kernel_rfl) ?_ ?_; rotate_left; (first | (refine Or.inr ⟨by rfl, ?_⟩; with_reducible rfl) | (refine Or.inl ⟨by rfl, fun W hS => detRes_value (w' := W) ?_ hS⟩; obtain ⟨x0, x1, x2, x3, x4, _⟩ := hS.1; go_simp; first | done | with_reducible rfl) | (refine Or.inl ⟨by rfl, fun W hS => ?_⟩; refine detRes_call (w' := W) (f := ?_) (args := ?_) ?_ ?_; rotate_left 2; (go_simp; (refine ⟨?_, ?_⟩ <;> with_reducible rfl)); (first | (with_reducible refine (HX.out _).mono ?_) | (with_reducible refine (HY.out _).mono ?_) | fail); (first | (rintro e wn ⟨rfl, hb⟩; refine ⟨?_, hS.step hb⟩; with_reducible rfl) | (rintro e wn ⟨rfl, rfl⟩; refine ⟨?_, hS⟩; with_reducible rfl) | fail)) | fail); (simp only [Act.put, List.setIfInBounds_toArray, List.set_cons_zero, List.set_cons_succ]))
        refine doneD (by kernel_rfl) fun wH3 HS => ?_
        have H3 := Lib.hid HS; clear HS
        try clear x0 x1 x2 x3 x4
        obtain ⟨x0, x1, x2, x3, x4, _⟩ := H3.out.1
        go_wp2_with fail
        go_ret
        exact ⟨ret_bool HRB.out.symm, H1.out.below.trans (H3.out.below.mono hsz)⟩
      cases d2
      · have HRB := Lib.hid (HNO.out (fun h => by have h1 := (HFM.out h).2; cases h1))
        go_wp2_with fail
        clear x0 x1 x2
        refine regionD (S := fun W => Held _ W [(bb, o + m * 2, .int .i64 (nx)), (bb, o + m * 2 + 1, .int .i64 (ny)), (w.heap.size, 0, .int .i64 (sx)), (w.heap.size, 1, .int .i64 (sy)), (w.heap.size, 2, .slice (some ⟨bb, o, none⟩) xs.length c)]) (by kernel_rfl) H2.out.drew ?_
        iterate 26 (refine takeT (v := ?_) rfl (by kernel_rfl) (by kernel_rfl) (by kernel_rfl) ?_ ?_; rotate_left; (first | (refine Or.inr ⟨by rfl, ?_⟩; with_reducible rfl) | (refine Or.inl ⟨by rfl, fun W hS => detRes_value (w' := W) ?_ hS⟩; obtain ⟨x0, x1, x2, x3, x4, _⟩ := hS.1; go_simp; first | done | with_reducible rfl) | (refine Or.inl ⟨by rfl, fun W hS => ?_⟩; refine detRes_call (w' := W) (f := ?_) (args := ?_) ?_ ?_; rotate_left 2; (go_simp; (refine ⟨?_, ?_⟩ <;> with_reducible rfl)); (first | (with_reducible refine (HX.out _).mono ?_) | (with_reducible refine (HY.out _).mono ?_) | fail); (first | (rintro e wn ⟨rfl, hb⟩; refine ⟨?_, hS.step hb⟩; with_reducible rfl) | (rintro e wn ⟨rfl, rfl⟩; refine ⟨?_, hS⟩; with_reducible rfl) | fail)) | fail); (simp only [Act.put, List.setIfInBounds_toArray, List.set_cons_zero, List.set_cons_succ]))
        refine doneD (by kernel_rfl) fun wH3 HS => ?_
        have H3 := Lib.hid HS; clear HS
        try clear x0 x1 x2 x3 x4
        obtain ⟨x0, x1, x2, x3, x4, _⟩ := H3.out.1
        go_wp2_with fail
        go_ret
        exact ⟨ret_bool HRB.out.symm, H1.out.below.trans (H3.out.below.mono hsz)⟩
      have HP := Lib.hid (HNX.out (fun hd => HCM.out hd rfl rfl))
      go_wp2_with fail
      clear x0 x1 x2
      refine regionD (S := fun W => Held _ W [(bb, o + m * 2, .int .i64 (nx)), (bb, o + m * 2 + 1, .int .i64 (ny)), (w.heap.size, 0, .int .i64 (sx)), (w.heap.size, 1, .int .i64 (sy)), (w.heap.size, 2, .slice (some ⟨bb, o, none⟩) xs.length c)]) (by kernel_rfl) H2.out.drew ?_
      iterate 26 (refine takeT (v := ?_) rfl (by kernel_rfl) (by kernel_rfl) (by kernel_rfl) ?_ ?_; rotate_left; (first | (refine Or.inr ⟨by rfl, ?_⟩; with_reducible rfl) | (refine Or.inl ⟨by rfl, fun W hS => detRes_value (w' := W) ?_ hS⟩; obtain ⟨x0, x1, x2, x3, x4, _⟩ := hS.1; go_simp; first | done | with_reducible rfl) | (refine Or.inl ⟨by rfl, fun W hS => ?_⟩; refine detRes_call (w' := W) (f := ?_) (args := ?_) ?_ ?_; rotate_left 2; (go_simp; (refine ⟨?_, ?_⟩ <;> with_reducible rfl)); (first | (with_reducible refine (HX.out _).mono ?_) | (with_reducible refine (HY.out _).mono ?_) | fail); (first | (rintro e wn ⟨rfl, hb⟩; refine ⟨?_, hS.step hb⟩; with_reducible rfl) | (rintro e wn ⟨rfl, rfl⟩; refine ⟨?_, hS⟩; with_reducible rfl) | fail)) | fail); (simp only [Act.put, List.setIfInBounds_toArray, List.set_cons_zero, List.set_cons_succ]))
      refine doneD (by kernel_rfl) fun wH3 HS => ?_
      have H3 := Lib.hid HS; clear HS
      try clear x0 x1 x2 x3 x4
      obtain ⟨x0, x1, x2, x3, x4, _⟩ := H3.out.1
      go_wp2_with fail
      exact ⟨⟨m + 1, by omega, by go_num, HP.out, ⟨H3.out.1.2.2, H3.out.2.1.2.2, H1.out.below.trans (H3.out.below.mono hsz)⟩⟩, by simp [intOf]; omega⟩
    · obtain rfl : m = xs.length := by omega
      go_wp2_with fail
      refine (HSH.out _).mono ?_
      rintro e w4 ⟨rfl, hb4⟩
      have H4 := Lib.hid (H1.out.step hb4)
      clear hb4 x0 x1 x2
      obtain ⟨x0, x1, x2, _⟩ := H4.out.1
      cases d
      · have HRB := Lib.hid (HNO.out (fun h => by have h1 := h.sh; rw [HD.out] at h1; cases h1))
        go_wp2_with fail
        go_ret
        exact ⟨ret_bool HRB.out.symm, H4.out.below⟩
      · by_cases h12 : xs.length ≤ 12
        · have HRB := Lib.hid (HR.out.2 ⟨HD.out, h12, HA.out rfl⟩)
          have h12i : (xs.length : Int) ≤ 12 := by omega
          go_wp2_with fail
          go_ret
          exact ⟨ret_bool HRB.out.symm, H4.out.below⟩
        · have HRB := Lib.hid (HNO.out (fun h => h12 h.few))
          have h12i : ¬ (xs.length : Int) ≤ 12 := by omega
          go_wp2_with fail
          go_ret
          exact ⟨ret_bool (by rw [HRB.out]; simp; omega), H4.out.below⟩
end Go.Proofs.Ytfppnaknnijobab
