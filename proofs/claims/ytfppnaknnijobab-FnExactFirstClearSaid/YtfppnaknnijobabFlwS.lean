/-
  CountSpots and IsClear of the model; CountSpots of the program.
-/
import Derived.Test.YtfppnaknnijobabFlwC
namespace Go.Proofs.Ytfppnaknnijobab
open Go.RowKit
set_option linter.unusedVariables false
set_option linter.unusedSimpArgs false

/-- Does none of the first i spots equal number k? -/
def fstT (xs : List Nd) (k i : Nat) : Bool := (List.range i).all fun j => atN xs j != atN xs k
theorem fstT_succ (xs : List Nd) (k i : Nat) : fstT xs k (i + 1) = (fstT xs k i && !decide (atN xs i = atN xs k)) := by
  unfold fstT
  rw [List.range_succ, List.all_append]
  simp [bne]
  rfl
theorem fstT_all (xs : List Nd) (k : Nat) : fstT xs k k = fstB xs k := rfl
theorem fstB_first (xs : List Nd) (k : Nat) : fstB xs k = !inFirst xs k (atN xs k) := by
  rw [Bool.eq_iff_iff, fstB_iff, Bool.not_eq_true', ← Bool.not_eq_true, inFirst_iff]
  constructor
  · rintro h ⟨i, hi, e⟩; exact h i hi e
  · intro h i hi e; exact h ⟨i, hi, e⟩
theorem spots_no {s : Nd} {xs : List Nd} {a p : Nd} (h : flwB s xs = false ∨ inB a.x (-1000) 1000 = false ∨ inB a.y (-1000) 1000 = false) : spotsI s xs a p = 0 := by
  unfold spotsI
  rcases h with h | h | h <;> rw [h] <;> simp
theorem spots_yes {s : Nd} {xs : List Nd} {a p : Nd} (h1 : flwB s xs = true) (h2 : inB a.x (-1000) 1000 = true) (h3 : inB a.y (-1000) 1000 = true) : spotsI s xs a p = ((cntS a p xs xs.length : Nat) : Int) := by
  unfold spotsI
  rw [h1, h2, h3]
  rfl

set_option maxRecDepth 100000 in
set_option maxHeartbeats 2000000 in
theorem specSpots (s : Nd) (xs : List Nd) (v : Value) (a p : Nd) (w : World) (hv : Prs w v xs) :
    Calls Try.prog 55 #[.agg #[.int .i64 s.x, .int .i64 s.y, v], a.val, p.val] w (IntIs (spotsI s xs a p) w) := by
  have HN := Lib.hid hv
  have hlen := hv.len
  have HA := Lib.hid (fun w h => specFlw s xs v w h)
  have HB := Lib.hid (specInB a.x (-1000) 1000)
  have HC := Lib.hid (specInB a.y (-1000) 1000)
  have HF := Lib.hid (fun h => spots_no (s := s) (xs := xs) (a := a) (p := p) h)
  have HT := Lib.hid (fun h1 h2 h3 => spots_yes (s := s) (xs := xs) (a := a) (p := p) h1 h2 h3)
  have HBD := Lib.hid (fun (h1 : flwB s xs = true) => flw_bd h1)
  have HI1 := Lib.hid (inB_iff a.x (-1000) 1000)
  have HI2 := Lib.hid (inB_iff a.y (-1000) 1000)
  have HCN := Lib.hid (cntS_succ a p xs)
  have HCL := Lib.hid (cntS_le a p xs)
  have HC0 := Lib.hid (show cntS a p xs 0 = 0 from rfl)
  have HFS := Lib.hid (fstT_succ xs)
  have HFA := Lib.hid (fstT_all xs)
  have HF0 := Lib.hid (fun k => (show fstT xs k 0 = true from rfl))
  have HIN := Lib.hid (fun n w (h1 : -1000 ≤ a.x ∧ a.x ≤ 1000) (h2 : -1000 ≤ a.y ∧ a.y ≤ 1000) h3 h4 => specIns a p n w h1 h2 h3 h4)
  have HEQ := Lib.hid (fun i k => eqNd (atN xs i) (atN xs k))
  obtain ⟨A, c, rfl⟩ := prs_form2 hv
  clear hv
  generalize spotsI s xs a p = r at *
  generalize flwB s xs = d1 at *
  generalize inB a.x (-1000) 1000 = d2 at *
  generalize inB a.y (-1000) 1000 = d3 at *
  generalize cntS a p xs = N at *
  generalize fstT xs = F at *
  generalize fstB xs = FB at *
  obtain ⟨cv, hcv⟩ : ∃ f : Nd → Bool, f = covB a p := ⟨_, rfl⟩
  rw [← hcv] at HCN HIN
  clear hcv
  have H0 := Lib.hid ((((Held.none_ w).new2 w.heap.size rfl [.int .i64 s.x, .int .i64 s.y, .slice A xs.length c] 75).new2 (w.heap.size + 1) (by simp) [.int .i64 a.x, .int .i64 a.y] 82).new2 (w.heap.size + 1 + 1) (by simp) [.int .i64 p.x, .int .i64 p.y] 60)
  simp only [newFs, List.cons_append, List.nil_append, List.append_nil] at H0
  obtain ⟨ax, ay⟩ := a
  obtain ⟨px, py⟩ := p
  obtain ⟨sx, sy⟩ := s
  unfold Nd.val at *
  simp only at H0 HA HB HC HF HT HBD HI1 HI2 HIN ⊢
  go_enter Try.func55, Try.ntmps55
  obtain ⟨x0, x1, x2, x3, x4, x5, x6, _⟩ := H0.out.1
  go_wp2_with fail
  refine (HA.out _ (HN.out.step H0.out.below)).mono ?_
  rintro e w1 ⟨rfl, hb1⟩
  have H1 := Lib.hid (H0.out.step hb1); clear hb1 x0 x1 x2 x3 x4 x5 x6
  obtain ⟨x0, x1, x2, x3, x4, x5, x6, _⟩ := H1.out.1
  cases d1
  · have HRB := Lib.hid (HF.out (.inl rfl))
    go_wp2_with fail
    go_ret
    exact ⟨ret_int (by rw [HRB.out]), H1.out.below⟩
  go_wp2_with fail
  refine (HB.out _).mono ?_
  rintro e w2 ⟨rfl, hb1⟩
  have H2 := Lib.hid (H1.out.step hb1); clear hb1 x0 x1 x2 x3 x4 x5 x6
  obtain ⟨x0, x1, x2, x3, x4, x5, x6, _⟩ := H2.out.1
  cases d2
  · have HRB := Lib.hid (HF.out (.inr (.inl (by trivial))))
    go_wp2_with fail
    go_ret
    exact ⟨ret_int (by rw [HRB.out]), H2.out.below⟩
  go_wp2_with fail
  refine (HC.out _).mono ?_
  rintro e w3 ⟨rfl, hb1⟩
  have H3 := Lib.hid (H2.out.step hb1); clear hb1 x0 x1 x2 x3 x4 x5 x6
  obtain ⟨x0, x1, x2, x3, x4, x5, x6, _⟩ := H3.out.1
  cases d3
  · have HRB := Lib.hid (HF.out (.inr (.inr (by trivial))))
    go_wp2_with fail
    go_ret
    exact ⟨ret_int (by rw [HRB.out]), H3.out.below⟩
  have HRB := Lib.hid (HT.out (by trivial) (by trivial) (by trivial))
  obtain ⟨-, -, h12, hsp⟩ := HBD.out (by trivial)
  have HSP := Lib.hid hsp; clear hsp
  have ha1 := HI1.out.1 (by trivial)
  have ha2 := HI2.out.1 (by trivial)
  have HIN2 := Lib.hid (fun n w h3 h4 => HIN.out n w ha1 ha2 h3 h4)
  clear HA HB HC HF HT HBD HI1 HI2 HIN H0 H1 H2 ha1 ha2
  go_wp2_with fail
  clear x0 x1 x2 x3 x4 x5 x6
  go_loopw [7, 8] (fun vn vk wr => ∃ k : Nat, k ≤ xs.length ∧ vk = .int .i64 k ∧ vn = .int .i64 ((N k : Nat) : Int) ∧ Held w wr [(w.heap.size + 1 + 1, 0, .int .i64 px), (w.heap.size + 1 + 1, 1, .int .i64 py), (w.heap.size + 1, 0, .int .i64 ax), (w.heap.size + 1, 1, .int .i64 ay), (w.heap.size, 0, .int .i64 sx), (w.heap.size, 1, .int .i64 sy), (w.heap.size, 2, .slice A xs.length c)]) (fun _ vk _ => xs.length - (intOf vk).toNat)
  case atStart => exact ⟨0, Nat.zero_le _, rfl, by rw [HC0.out]; rfl, H3.out⟩
  case round =>
    clear H3
    obtain ⟨k, hk, rfl, rfl, hh⟩ := hrel
    have H1 := Lib.hid hh; clear hh
    have hz2 : (0 : Int) ≤ k := by omega
    by_cases hlt : k < xs.length
    · have hz1 : (k : Int) < (xs.length : Int) := by omega
      obtain ⟨x0, x1, x2, x3, x4, x5, x6, _⟩ := H1.out.1
      go_wp2_with fail
      clear x0 x1 x2 x3 x4 x5 x6
      go_loopw [9, 10] (fun vf vi wr2 => ∃ i : Nat, i ≤ k ∧ vi = .int .i64 i ∧ vf = .bool (F k i) ∧ Held w wr2 [(w.heap.size + 1 + 1, 0, .int .i64 px), (w.heap.size + 1 + 1, 1, .int .i64 py), (w.heap.size + 1, 0, .int .i64 ax), (w.heap.size + 1, 1, .int .i64 ay), (w.heap.size, 0, .int .i64 sx), (w.heap.size, 1, .int .i64 sy), (w.heap.size, 2, .slice A xs.length c)]) (fun _ vi _ => k - (intOf vi).toNat)
      case atStart => exact ⟨0, Nat.zero_le _, rfl, by rw [HF0.out], H1.out⟩
      case round =>
        clear H1
        obtain ⟨i, hi, rfl, rfl, hh⟩ := hrel
        have H1 := Lib.hid hh; clear hh
        have hz3 : (0 : Int) ≤ i := by omega
        by_cases hik : i < k
        · have hz4 : (i : Int) < (k : Int) := by omega
          have hz5 : (i : Int) < (xs.length : Int) := by omega
          obtain ⟨bb, o, c', he, hbl, hcs⟩ := prs_at2 (HN.out.step H1.out.below) hlt
          injection he with he1 he2 he3
          subst he1
          obtain ⟨p0, p1⟩ := hcs k hlt
          obtain ⟨p2, p3⟩ := hcs i (by omega)
          clear hcs he2 he3
          have HFI := Lib.hid (HFS.out k i)
          have q := HEQ.out i k
          generalize decide (atN xs i = atN xs k) = d at *
          generalize atN xs i = ni at *
          generalize atN xs k = nk at *
          obtain ⟨ix, iy⟩ := ni
          obtain ⟨kx, ky⟩ := nk
          simp only at p0 p1 p2 p3 q
          obtain ⟨x0, x1, x2, x3, x4, x5, x6, _⟩ := H1.out.1
          generalize hf : F k i = f at *
          clear hf
          cases f
          · rw [Bool.false_and] at HFI
            go_wp2_with fail
            go_quiet (fail)
            go_wp2_with fail
            exact ⟨⟨i + 1, by omega, by go_num, by rw [HFI.out], H1.out.drewN _⟩, by simp [intOf]; omega⟩
          · rw [Bool.true_and] at HFI
            cases d
            · go_wp2_with fail
              go_quiet (fail)
              go_wp2_with fail
              exact ⟨⟨i + 1, by omega, by go_num, by rw [HFI.out]; rfl, H1.out.drewN _⟩, by simp [intOf]; omega⟩
            · go_wp2_with fail
              go_quiet (fail)
              go_wp2_with fail
              exact ⟨⟨i + 1, by omega, by go_num, by rw [HFI.out]; rfl, H1.out.drewN _⟩, by simp [intOf]; omega⟩
        · obtain rfl : i = k := by omega
          have hz4 : ¬ (i : Int) < (i : Int) := by omega
          obtain ⟨bb, o, c', he, hbl, hcs⟩ := prs_at2 (HN.out.step H1.out.below) hlt
          injection he with he1 he2 he3
          subst he1
          obtain ⟨p0, p1⟩ := hcs i hlt
          clear hcs he2 he3
          have HCI := Lib.hid (HCN.out i)
          have hle := HCL.out i
          have hbd := HSP.out i hlt
          have HX := Lib.hid (fun w => HIN2.out (atN xs i) w (by omega) (by omega))
          rw [← HFA.out i] at HCI
          generalize cv (atN xs i) = d at *
          generalize atN xs i = ni at *
          obtain ⟨ix, iy⟩ := ni
          simp only at p0 p1 HX
          clear hbd
          have H2 := Lib.hid (show Held w wr [(bb, o + i * 2, .int .i64 ix), (bb, o + i * 2 + 1, .int .i64 iy), (w.heap.size + 1 + 1, 0, .int .i64 px), (w.heap.size + 1 + 1, 1, .int .i64 py), (w.heap.size + 1, 0, .int .i64 ax), (w.heap.size + 1, 1, .int .i64 ay), (w.heap.size, 0, .int .i64 sx), (w.heap.size, 1, .int .i64 sy), (w.heap.size, 2, .slice (some ⟨bb, o, none⟩) xs.length c)] from ⟨⟨p0, p1, H1.out.1⟩, ⟨hbl, hbl, H1.out.2.1⟩, H1.out.2.2⟩)
          clear p0 p1
          obtain ⟨x0, x1, x2, x3, x4, x5, x6, _⟩ := H1.out.1
          generalize hni : N i = n at *
          clear hni
          generalize hf : F i i = f at *
          clear hf
          cases f
          · rw [Bool.false_and, if_neg (by simp)] at HCI
            go_wp2_with fail
            clear x0 x1 x2 x3 x4 x5 x6
            refine regionD (S := fun W => Held _ W [(bb, o + i * 2, .int .i64 (ix)), (bb, o + i * 2 + 1, .int .i64 (iy)), (w.heap.size + 1 + 1, 0, .int .i64 (px)), (w.heap.size + 1 + 1, 1, .int .i64 (py)), (w.heap.size + 1, 0, .int .i64 (ax)), (w.heap.size + 1, 1, .int .i64 (ay)), (w.heap.size, 0, .int .i64 (sx)), (w.heap.size, 1, .int .i64 (sy)), (w.heap.size, 2, .slice (some ⟨bb, o, none⟩) xs.length c)]) (by kernel_rfl) H2.out.drew ?_
            iterate 11 (refine takeT (v := ?_) rfl (by kernel_rfl) (by kernel_rfl) (by kernel_rfl) ?_ ?_; rotate_left; (first | (refine Or.inr ⟨by rfl, ?_⟩; with_reducible rfl) | (refine Or.inl ⟨by rfl, fun W hS => detRes_value (w' := W) ?_ hS⟩; obtain ⟨x0, x1, x2, x3, x4, x5, x6, x7, x8, _⟩ := hS.1; go_simp; first | done | with_reducible rfl) | (refine Or.inl ⟨by rfl, fun W hS => ?_⟩; refine detRes_call (w' := W) (f := ?_) (args := ?_) ?_ ?_; rotate_left 2; (go_simp; (refine ⟨?_, ?_⟩ <;> with_reducible rfl)); (first | (with_reducible refine (HX.out _).mono ?_) | fail); (first | (rintro e wn ⟨rfl, hb⟩; refine ⟨?_, hS.step hb⟩; with_reducible rfl) | (rintro e wn ⟨rfl, rfl⟩; refine ⟨?_, hS⟩; with_reducible rfl) | fail)) | fail); (simp only [Act.put, List.setIfInBounds_toArray, List.set_cons_zero, List.set_cons_succ]))
            refine doneD (by kernel_rfl) fun wH3 HS => ?_
            have H3 := Lib.hid HS; clear HS
            try clear x0 x1 x2 x3 x4 x5 x6 x7 x8
            obtain ⟨x0, x1, x2, x3, x4, x5, x6, x7, x8, _⟩ := H3.out.1
            go_wp2_with fail
            exact ⟨⟨i + 1, by omega, by go_num, by rw [HCI.out], ⟨H3.out.1.2.2, H3.out.2.1.2.2, H3.out.2.2⟩⟩, by simp [intOf]; omega⟩
          · rw [Bool.true_and] at HCI
            cases d
            · rw [if_neg (by simp)] at HCI
              go_wp2_with fail
              clear x0 x1 x2 x3 x4 x5 x6
              refine regionD (S := fun W => Held _ W [(bb, o + i * 2, .int .i64 (ix)), (bb, o + i * 2 + 1, .int .i64 (iy)), (w.heap.size + 1 + 1, 0, .int .i64 (px)), (w.heap.size + 1 + 1, 1, .int .i64 (py)), (w.heap.size + 1, 0, .int .i64 (ax)), (w.heap.size + 1, 1, .int .i64 (ay)), (w.heap.size, 0, .int .i64 (sx)), (w.heap.size, 1, .int .i64 (sy)), (w.heap.size, 2, .slice (some ⟨bb, o, none⟩) xs.length c)]) (by kernel_rfl) H2.out.drew ?_
              iterate 11 (refine takeT (v := ?_) rfl (by kernel_rfl) (by kernel_rfl) (by kernel_rfl) ?_ ?_; rotate_left; (first | (refine Or.inr ⟨by rfl, ?_⟩; with_reducible rfl) | (refine Or.inl ⟨by rfl, fun W hS => detRes_value (w' := W) ?_ hS⟩; obtain ⟨x0, x1, x2, x3, x4, x5, x6, x7, x8, _⟩ := hS.1; go_simp; first | done | with_reducible rfl) | (refine Or.inl ⟨by rfl, fun W hS => ?_⟩; refine detRes_call (w' := W) (f := ?_) (args := ?_) ?_ ?_; rotate_left 2; (go_simp; (refine ⟨?_, ?_⟩ <;> with_reducible rfl)); (first | (with_reducible refine (HX.out _).mono ?_) | fail); (first | (rintro e wn ⟨rfl, hb⟩; refine ⟨?_, hS.step hb⟩; with_reducible rfl) | (rintro e wn ⟨rfl, rfl⟩; refine ⟨?_, hS⟩; with_reducible rfl) | fail)) | fail); (simp only [Act.put, List.setIfInBounds_toArray, List.set_cons_zero, List.set_cons_succ]))
              refine doneD (by kernel_rfl) fun wH3 HS => ?_
              have H3 := Lib.hid HS; clear HS
              try clear x0 x1 x2 x3 x4 x5 x6 x7 x8
              obtain ⟨x0, x1, x2, x3, x4, x5, x6, x7, x8, _⟩ := H3.out.1
              go_wp2_with fail
              exact ⟨⟨i + 1, by omega, by go_num, by rw [HCI.out], ⟨H3.out.1.2.2, H3.out.2.1.2.2, H3.out.2.2⟩⟩, by simp [intOf]; omega⟩
            · rw [if_pos (by simp)] at HCI
              go_wp2_with fail
              clear x0 x1 x2 x3 x4 x5 x6
              refine regionD (S := fun W => Held _ W [(bb, o + i * 2, .int .i64 (ix)), (bb, o + i * 2 + 1, .int .i64 (iy)), (w.heap.size + 1 + 1, 0, .int .i64 (px)), (w.heap.size + 1 + 1, 1, .int .i64 (py)), (w.heap.size + 1, 0, .int .i64 (ax)), (w.heap.size + 1, 1, .int .i64 (ay)), (w.heap.size, 0, .int .i64 (sx)), (w.heap.size, 1, .int .i64 (sy)), (w.heap.size, 2, .slice (some ⟨bb, o, none⟩) xs.length c)]) (by kernel_rfl) H2.out.drew ?_
              iterate 11 (refine takeT (v := ?_) rfl (by kernel_rfl) (by kernel_rfl) (by kernel_rfl) ?_ ?_; rotate_left; (first | (refine Or.inr ⟨by rfl, ?_⟩; with_reducible rfl) | (refine Or.inl ⟨by rfl, fun W hS => detRes_value (w' := W) ?_ hS⟩; obtain ⟨x0, x1, x2, x3, x4, x5, x6, x7, x8, _⟩ := hS.1; go_simp; first | done | with_reducible rfl) | (refine Or.inl ⟨by rfl, fun W hS => ?_⟩; refine detRes_call (w' := W) (f := ?_) (args := ?_) ?_ ?_; rotate_left 2; (go_simp; (refine ⟨?_, ?_⟩ <;> with_reducible rfl)); (first | (with_reducible refine (HX.out _).mono ?_) | fail); (first | (rintro e wn ⟨rfl, hb⟩; refine ⟨?_, hS.step hb⟩; with_reducible rfl) | (rintro e wn ⟨rfl, rfl⟩; refine ⟨?_, hS⟩; with_reducible rfl) | fail)) | fail); (simp only [Act.put, List.setIfInBounds_toArray, List.set_cons_zero, List.set_cons_succ]))
              refine doneD (by kernel_rfl) fun wH3 HS => ?_
              have H3 := Lib.hid HS; clear HS
              try clear x0 x1 x2 x3 x4 x5 x6 x7 x8
              obtain ⟨x0, x1, x2, x3, x4, x5, x6, x7, x8, _⟩ := H3.out.1
              go_wp2_with fail
              exact ⟨⟨i + 1, by omega, by go_num, by rw [HCI.out]; go_num, ⟨H3.out.1.2.2, H3.out.2.1.2.2, H3.out.2.2⟩⟩, by simp [intOf]; omega⟩
    · obtain rfl : k = xs.length := by omega
      have hz1 : ¬ (xs.length : Int) < (xs.length : Int) := by omega
      obtain ⟨x0, x1, x2, x3, x4, x5, x6, _⟩ := H1.out.1
      go_wp2_with fail
      go_ret
      exact ⟨ret_int (by rw [HRB.out]), H1.out.below⟩
end Go.Proofs.Ytfppnaknnijobab
