/-
  IsClear of the model, CountSpots of the program.
-/
import Derived.Test.YtfppnaknnijobabFlwS
namespace Go.Proofs.Ytfppnaknnijobab
open Go.RowKit
set_option linter.unusedVariables false
set_option linter.unusedSimpArgs false

theorem isClr_flw {s : Nd} {xs : List Nd} {a p : Nd} (h1 : flwB s xs = true) (h2 : shB p = true) : isClrB s xs a p = (inB a.x 0 (s.x - p.x) && inB a.y 0 (s.y - p.y) && clrB a p xs) := by
  unfold isClrB
  rw [h1, h2]
  simp
theorem spots_in {s : Nd} {xs : List Nd} {a p : Nd} (h1 : flwB s xs = true) (h2 : shB p = true) (h3 : inB a.x 0 (s.x - p.x) = true) (h4 : inB a.y 0 (s.y - p.y) = true) : spotsI s xs a p = ((cntS a p xs xs.length : Nat) : Int) := by
  have b := flw_bd h1
  have c := (shB_iff p).1 h2
  rw [inB_iff] at h3 h4
  exact spots_yes h1 ((inB_iff _ _ _).2 (by omega)) ((inB_iff _ _ _).2 (by omega))

set_option maxRecDepth 100000 in
set_option maxHeartbeats 1000000 in
theorem specIsClr (s : Nd) (xs : List Nd) (v : Value) (a p : Nd) (w : World) (hv : Prs w v xs) :
    Calls Try.prog 49 #[.agg #[.int .i64 s.x, .int .i64 s.y, v], a.val, p.val] w (BoolIs (isClrB s xs a p) w) := by
  have HN := Lib.hid hv
  have HA := Lib.hid (fun w h => specFlw s xs v w h)
  have HB := Lib.hid (specSheetOk p)
  have HC := Lib.hid (specInB a.x 0 (s.x - p.x))
  have HD := Lib.hid (specInB a.y 0 (s.y - p.y))
  have HF := Lib.hid (fun h => isClr_false (s := s) (xs := xs) (a := a) (p := p) h)
  have HT := Lib.hid (fun h1 h2 => isClr_flw (s := s) (xs := xs) (a := a) (p := p) h1 h2)
  have HBD := Lib.hid (fun (h1 : flwB s xs = true) (h2 : shB p = true) => And.intro (flw_bd h1) ((shB_iff p).1 h2))
  have HSP := Lib.hid (fun w h => specSpots s xs v a p w h)
  have HSI := Lib.hid (fun h1 h2 h3 h4 => spots_in (s := s) (xs := xs) (a := a) (p := p) h1 h2 h3 h4)
  have HCC := Lib.hid (clr_cnt a p xs)
  obtain ⟨A, c, rfl⟩ := prs_form2 hv
  clear hv
  generalize isClrB s xs a p = r at *
  generalize flwB s xs = d1 at *
  generalize shB p = d2 at *
  generalize inB a.x 0 (s.x - p.x) = d3 at *
  generalize inB a.y 0 (s.y - p.y) = d4 at *
  generalize clrB a p xs = q at *
  generalize spotsI s xs a p = n at *
  generalize cntS a p xs xs.length = m at *
  have H0 := Lib.hid ((((Held.none_ w).new2 w.heap.size rfl [.int .i64 s.x, .int .i64 s.y, .slice A xs.length c] 75).new2 (w.heap.size + 1) (by simp) [.int .i64 a.x, .int .i64 a.y] 82).new2 (w.heap.size + 1 + 1) (by simp) [.int .i64 p.x, .int .i64 p.y] 60)
  simp only [newFs, List.cons_append, List.nil_append, List.append_nil] at H0
  obtain ⟨ax, ay⟩ := a
  obtain ⟨px, py⟩ := p
  obtain ⟨sx, sy⟩ := s
  unfold Nd.val at *
  simp only at H0 HA HB HC HD HF HT HBD HSP ⊢
  go_enter Try.func49, Try.ntmps49
  obtain ⟨x0, x1, x2, x3, x4, x5, x6, _⟩ := H0.out.1
  go_wp2_with fail
  refine (HA.out _ (HN.out.step H0.out.below)).mono ?_
  rintro e w1 ⟨rfl, hb1⟩
  have H1 := Lib.hid (H0.out.step hb1); clear hb1 x0 x1 x2 x3 x4 x5 x6
  obtain ⟨x0, x1, x2, x3, x4, x5, x6, _⟩ := H1.out.1
  cases d1
  · have HRB := Lib.hid (HF.out (.inl rfl))
    go_wp2_with fail
    go_ret
    exact ⟨ret_bool HRB.out.symm, H1.out.below⟩
  go_wp2_with fail
  refine (HB.out _).mono ?_
  rintro e w2 ⟨rfl, hb1⟩
  have H2 := Lib.hid (H1.out.step hb1); clear hb1 x0 x1 x2 x3 x4 x5 x6
  obtain ⟨x0, x1, x2, x3, x4, x5, x6, _⟩ := H2.out.1
  cases d2
  · have HRB := Lib.hid (HF.out (.inr (.inl (by trivial))))
    go_wp2_with fail
    go_ret
    exact ⟨ret_bool HRB.out.symm, H2.out.below⟩
  obtain ⟨⟨bx, bY, -, -⟩, bpx, bpy⟩ := HBD.out (by trivial) (by trivial)
  have e1 : IntKind.i64.wrap (sx - px) = sx - px := IntWalk.i64_in _ (by omega)
  have e2 : IntKind.i64.wrap (sy - py) = sy - py := IntWalk.i64_in _ (by omega)
  have HR2 := Lib.hid (HT.out (by trivial) (by trivial))
  clear HT HF HBD HA HB H0 H1
  go_wp2_with fail
  refine (HC.out _).mono ?_
  rintro e w3 ⟨rfl, hb1⟩
  have H3 := Lib.hid (H2.out.step hb1); clear hb1 x0 x1 x2 x3 x4 x5 x6 H2
  obtain ⟨x0, x1, x2, x3, x4, x5, x6, _⟩ := H3.out.1
  cases d3
  · go_wp2_with fail
    go_ret
    exact ⟨ret_bool (by rw [HR2.out]; simp), H3.out.below⟩
  go_wp2_with fail
  refine (HD.out _).mono ?_
  rintro e w4 ⟨rfl, hb1⟩
  have H4 := Lib.hid (H3.out.step hb1); clear hb1 x0 x1 x2 x3 x4 x5 x6 H3
  obtain ⟨x0, x1, x2, x3, x4, x5, x6, _⟩ := H4.out.1
  cases d4
  · go_wp2_with fail
    go_ret
    exact ⟨ret_bool (by rw [HR2.out]; simp), H4.out.below⟩
  have HNM := Lib.hid (HSI.out (by trivial) (by trivial) (by trivial) (by trivial))
  clear HSI
  go_wp2_with fail
  refine (HSP.out _ (HN.out.step H4.out.below)).mono ?_
  rintro e w5 ⟨rfl, hb1⟩
  have H5 := Lib.hid (H4.out.step hb1); clear hb1 x0 x1 x2 x3 x4 x5 x6
  by_cases hn : n = 0
  · have hn2 : (n == 0) = true := by simpa using hn
    have HQ := Lib.hid (show q = true from by rw [HCC.out, decide_eq_true (show m = 0 from by have := HNM.out; omega)])
    clear hn
    go_wp2_with fail
    go_ret
    exact ⟨ret_bool (by rw [HR2.out, HQ.out]; first | rfl | simpa using hn2), H5.out.below⟩
  · have hn2 : (n == 0) = false := by simpa using hn
    have HQ := Lib.hid (show q = false from by rw [HCC.out, decide_eq_false (show ¬ m = 0 from by have := HNM.out; omega)])
    clear hn
    go_wp2_with fail
    go_ret
    exact ⟨ret_bool (by rw [HR2.out, HQ.out]; first | rfl | simpa using hn2), H5.out.below⟩

set_option maxRecDepth 100000 in
set_option maxHeartbeats 2000000 in
theorem implSpots (s : Nd) (xs : List Nd) (v : Value) (a p : Nd) (w : World) (hv : Prs w v xs) (hb : PrsIn xs) :
    Calls Try.prog 56 #[.agg #[.int .i64 s.x, .int .i64 s.y, v], a.val, p.val] w (IntIs (spotsI s xs a p) w) := by
  have HN := Lib.hid hv
  have hlen := hv.len
  have HA := Lib.hid (fun w h => implFlw s xs v w h hb)
  have HB0 := fun v w hv => implInR [a.x, a.y] v (-1000) 1000 w hv
  rw [show inR [a.x, a.y] (-1000) 1000 = (inB a.x (-1000) 1000 && inB a.y (-1000) 1000) from by simp [inR]] at HB0
  have HB := Lib.hid HB0; clear HB0
  have HF := Lib.hid (fun h => spots_no (s := s) (xs := xs) (a := a) (p := p) h)
  have HT := Lib.hid (fun h1 h2 h3 => spots_yes (s := s) (xs := xs) (a := a) (p := p) h1 h2 h3)
  have HBD := Lib.hid (fun (h1 : flwB s xs = true) => flw_bd h1)
  have HI1 := Lib.hid (inB_iff a.x (-1000) 1000)
  have HI2 := Lib.hid (inB_iff a.y (-1000) 1000)
  have HCN := Lib.hid (cntS_succ a p xs)
  have HCL := Lib.hid (cntS_le a p xs)
  have HC0 := Lib.hid (show cntS a p xs 0 = 0 from rfl)
  have HFF := Lib.hid (fstB_first xs)
  have HWY := Lib.hid (fun (h : flwB s xs = true) h1 h2 k (hk : k < xs.length) w => implCov a p (atN xs k) w (way_flw h h1 h2 k hk))
  obtain ⟨A, c, rfl⟩ := prs_form2 hv
  have hcap := (prs_cap hv).2
  have HCT := Lib.hid (fun k n w h hk hl => containsNd_any xs A c k n w h hk hl)
  clear hv
  generalize spotsI s xs a p = r at *
  generalize flwB s xs = d1 at *
  generalize inB a.x (-1000) 1000 = d2 at *
  generalize inB a.y (-1000) 1000 = d3 at *
  generalize cntS a p xs = N at *
  generalize fstB xs = FB at *
  obtain ⟨cv, hcv⟩ : ∃ f : Nd → Bool, f = covB a p := ⟨_, rfl⟩
  rw [← hcv] at HCN HWY
  clear hcv
  have H0 := Lib.hid ((((Held.none_ w).new2 w.heap.size rfl [.int .i64 s.x, .int .i64 s.y, .slice A xs.length c] 75).new2 (w.heap.size + 1) (by simp) [.int .i64 a.x, .int .i64 a.y] 82).new2 (w.heap.size + 1 + 1) (by simp) [.int .i64 p.x, .int .i64 p.y] 60)
  simp only [newFs, List.cons_append, List.nil_append, List.append_nil] at H0
  obtain ⟨ax, ay⟩ := a
  obtain ⟨px, py⟩ := p
  obtain ⟨sx, sy⟩ := s
  unfold Nd.val at *
  simp only at H0 HA HB HF HT HBD HI1 HI2 HWY ⊢
  go_enter Try.func56, Try.ntmps56
  obtain ⟨x0, x1, x2, x3, x4, x5, x6, _⟩ := H0.out.1
  go_wp2_with fail
  refine (HA.out _ (HN.out.step H0.out.below)).mono ?_
  rintro e w1 ⟨rfl, hb1⟩
  have H1 := Lib.hid (H0.out.step hb1); clear hb1 x0 x1 x2 x3 x4 x5 x6
  obtain ⟨x0, x1, x2, x3, x4, x5, x6, _⟩ := H1.out.1
  cases d1
  · have HRB := Lib.hid (HF.out (.inl rfl))
    go_wp2_with fail
    go_ret
    exact ⟨ret_int (by rw [HRB.out]), H1.out.below⟩
  go_wp2_with fail
  refine (HB.out _ _ (Ints.lit w1 w1.heap.size 0 rfl (by omega) [ax, ay] (by simp) _ rfl).seq).mono ?_
  rintro e w2 ⟨rfl, hb1⟩
  have H2 := Lib.hid ((H1.out.alloc _).step hb1); clear hb1 x0 x1 x2 x3 x4 x5 x6
  obtain ⟨x0, x1, x2, x3, x4, x5, x6, _⟩ := H2.out.1
  by_cases hd : (d2 && d3) = true
  · obtain ⟨rfl, rfl⟩ : d2 = true ∧ d3 = true := by simpa using hd
    clear hd
    have HRB := Lib.hid (HT.out (by trivial) (by trivial) (by trivial))
    obtain ⟨-, -, h12, hsp⟩ := HBD.out (by trivial)
    clear hsp
    have ha1 := HI1.out.1 (by trivial)
    have ha2 := HI2.out.1 (by trivial)
    have HWY2 := Lib.hid (HWY.out (by trivial) ha1 ha2)
    clear HA HB HF HT HBD HI1 HI2 HWY H0 H1 ha1 ha2
    rw [Bool.and_self]
    go_wp2_with fail
    clear x0 x1 x2 x3 x4 x5 x6
    go_loopw [7, 25] (fun vn vk wr => ∃ k : Nat, k ≤ xs.length ∧ vk = .int .i64 k ∧ vn = .int .i64 ((N k : Nat) : Int) ∧ Held w wr [(w.heap.size + 1 + 1, 0, .int .i64 px), (w.heap.size + 1 + 1, 1, .int .i64 py), (w.heap.size + 1, 0, .int .i64 ax), (w.heap.size + 1, 1, .int .i64 ay), (w.heap.size, 0, .int .i64 sx), (w.heap.size, 1, .int .i64 sy), (w.heap.size, 2, .slice A xs.length c)]) (fun _ vk _ => xs.length - (intOf vk).toNat)
    case atStart => exact ⟨0, Nat.zero_le _, rfl, by rw [HC0.out]; rfl, H2.out⟩
    case round =>
      clear H2
      obtain ⟨k, hk, rfl, rfl, hh⟩ := hrel
      have H1 := Lib.hid hh; clear hh
      have hz2 : (0 : Int) ≤ k := by omega
      by_cases hlt : k < xs.length
      · have hz1 : (k : Int) < (xs.length : Int) := by omega
        have hz3 : (k : Int) ≤ (c : Int) := by omega
        have hz4 : k ≤ c := by omega
        obtain ⟨bb, o, c', he, hbl, hcs⟩ := prs_at2 (HN.out.step H1.out.below) hlt
        injection he with he1 he2 he3
        subst he1
        obtain ⟨p0, p1⟩ := hcs k hlt
        clear hcs he2 he3
        have HCI := Lib.hid (HCN.out k)
        have hle := HCL.out k
        have HX := Lib.hid (HWY2.out k hlt)
        have HCK := Lib.hid (fun w h => HCT.out k (atN xs k) w h (by omega) (by omega))
        rw [HFF.out k] at HCI
        generalize cv (atN xs k) = d at *
        generalize inFirst xs k (atN xs k) = f at *
        generalize atN xs k = ni at *
        obtain ⟨ix, iy⟩ := ni
        simp only at p0 p1 HX HCK
        have H3 := Lib.hid (H1.out.new2 wr.heap.size rfl [.int .i64 ix, .int .i64 iy] 82)
        simp only [newFs, List.cons_append, List.nil_append, List.append_nil] at H3
        obtain ⟨x0, x1, x2, x3, x4, x5, x6, _⟩ := H1.out.1
        go_wp2_with fail
        clear x0 x1 x2 x3 x4 x5 x6 p0 p1
        obtain ⟨x0, x1, x2, x3, x4, x5, x6, x7, x8, _⟩ := H3.out.1
        generalize hni : N k = n at *
        clear hni
        cases d
        · rw [Bool.and_false, if_neg (by simp)] at HCI
          refine regionW (fun W => Held _ W [(wr.heap.size, 0, .int .i64 (ix)), (wr.heap.size, 0 + 1, .int .i64 (iy)), (w.heap.size + 1 + 1, 0, .int .i64 (px)), (w.heap.size + 1 + 1, 1, .int .i64 (py)), (w.heap.size + 1, 0, .int .i64 (ax)), (w.heap.size + 1, 1, .int .i64 (ay)), (w.heap.size, 0, .int .i64 (sx)), (w.heap.size, 1, .int .i64 (sy)), (w.heap.size, 2, .slice (some ⟨bb, o, none⟩) xs.length c)]) (by kernel_rfl) H3.out.drew ?_
          refine takeW (i := 0) (v := ?_) (Stable.held _ _) rfl (by kernel_rfl) (by kernel_rfl) (by kernel_rfl) (fun _ _ _ h => h) ?_ ?_
          rotate_left
          · first | (refine Or.inl ⟨by rfl, fun W hS => detR_value (w' := W) ?_ (Below.refl _ _)⟩; have hH := hS; obtain ⟨x0, x1, x2, x3, x4, x5, x6, x7, x8, _⟩ := hH.1; go_simp; first | done | with_reducible rfl) | fail
          simp only [Act.put, List.setIfInBounds_toArray, List.set_cons_zero, List.set_cons_succ]
          refine takeW (i := 1) (v := ?_) (Stable.held _ _) rfl (by kernel_rfl) (by kernel_rfl) (by kernel_rfl) (fun _ _ _ h => h) ?_ ?_
          rotate_left
          · first | (refine Or.inl ⟨by rfl, fun W hS => detR_value (w' := W) ?_ (Below.refl _ _)⟩; have hH := hS; obtain ⟨x0, x1, x2, x3, x4, x5, x6, x7, x8, _⟩ := hH.1; go_simp; first | done | with_reducible rfl) | fail
          simp only [Act.put, List.setIfInBounds_toArray, List.set_cons_zero, List.set_cons_succ]
          refine takeW (i := 2) (v := ?_) (Stable.held _ _) rfl (by kernel_rfl) (by kernel_rfl) (by kernel_rfl) (fun _ _ _ h => h) ?_ ?_
          rotate_left
          · first | (refine Or.inl ⟨by rfl, fun W hS => detR_value (w' := W) ?_ (Below.refl _ _)⟩; have hH := hS; obtain ⟨x0, x1, x2, x3, x4, x5, x6, x7, x8, _⟩ := hH.1; go_simp; first | done | with_reducible rfl) | fail
          simp only [Act.put, List.setIfInBounds_toArray, List.set_cons_zero, List.set_cons_succ]
          refine takeW (i := 3) (v := ?_) (Stable.held _ _) rfl (by kernel_rfl) (by kernel_rfl) (by kernel_rfl) (fun _ _ _ h => h) ?_ ?_
          rotate_left
          · first | (refine Or.inl ⟨by rfl, fun W hS => ?_⟩; have hH := hS; refine detR_call (w' := W) (f := ?_) (args := ?_) ?_ ?_; rotate_left 2; (go_simp; (refine ⟨?_, ?_⟩ <;> with_reducible rfl)); (first | (with_reducible refine (HX.out _).mono ?_) | fail); (first | (rintro e wn ⟨rfl, hb⟩; refine ⟨?_, hb⟩; with_reducible rfl) | (rintro e wn ⟨rfl, rfl⟩; refine ⟨?_, Below.refl _ _⟩; with_reducible rfl) | fail)) | fail
          simp only [Act.put, List.setIfInBounds_toArray, List.set_cons_zero, List.set_cons_succ]
          refine takeW (i := 4) (v := ?_) (Stable.held _ _) rfl (by kernel_rfl) (by kernel_rfl) (by kernel_rfl) (fun _ _ _ h => h) ?_ ?_
          rotate_left
          · first | (refine Or.inl ⟨by rfl, fun W hS => detR_value (w' := W) ?_ (Below.refl _ _)⟩; have hH := hS; obtain ⟨x0, x1, x2, x3, x4, x5, x6, x7, x8, _⟩ := hH.1; go_simp; first | done | with_reducible rfl) | fail
          simp only [Act.put, List.setIfInBounds_toArray, List.set_cons_zero, List.set_cons_succ]
          refine takeW (i := 5) (v := ?_) (Stable.held _ _) rfl (by kernel_rfl) (by kernel_rfl) (by kernel_rfl) (fun _ _ _ h => h) ?_ ?_
          rotate_left
          · first | (refine Or.inr ⟨by rfl, ?_⟩; with_reducible rfl) | (refine Or.inl ⟨by rfl, fun W hS => detR_value (w' := W) ?_ (Below.refl _ _)⟩; have hH := hS; obtain ⟨x0, x1, x2, x3, x4, x5, x6, x7, x8, _⟩ := hH.1; go_simp; first | done | with_reducible rfl) | fail
          simp only [Act.put, List.setIfInBounds_toArray, List.set_cons_zero, List.set_cons_succ]
          refine takeW (i := 6) (v := ?_) (Stable.held _ _) rfl (by kernel_rfl) (by kernel_rfl) (by kernel_rfl) (fun _ _ _ h => h) ?_ ?_
          rotate_left
          · first | (refine Or.inr ⟨by rfl, ?_⟩; with_reducible rfl) | (refine Or.inl ⟨by rfl, fun W hS => detR_value (w' := W) ?_ (Below.refl _ _)⟩; have hH := hS; obtain ⟨x0, x1, x2, x3, x4, x5, x6, x7, x8, _⟩ := hH.1; go_simp; first | done | with_reducible rfl) | fail
          simp only [Act.put, List.setIfInBounds_toArray, List.set_cons_zero, List.set_cons_succ]
          refine takeW (i := 7) (v := ?_) (Stable.held _ _) rfl (by kernel_rfl) (by kernel_rfl) (by kernel_rfl) (fun _ _ _ h => h) ?_ ?_
          rotate_left
          · first | (refine Or.inr ⟨by rfl, ?_⟩; with_reducible rfl) | (refine Or.inl ⟨by rfl, fun W hS => detR_value (w' := W) ?_ (Below.refl _ _)⟩; have hH := hS; obtain ⟨x0, x1, x2, x3, x4, x5, x6, x7, x8, _⟩ := hH.1; go_simp; first | done | with_reducible rfl) | fail
          simp only [Act.put, List.setIfInBounds_toArray, List.set_cons_zero, List.set_cons_succ]
          refine takeW (i := 8) (v := ?_) (Stable.held _ _) rfl (by kernel_rfl) (by kernel_rfl) (by kernel_rfl) (fun _ _ _ h => h) ?_ ?_
          rotate_left
          · first | (refine Or.inr ⟨by rfl, ?_⟩; with_reducible rfl) | (refine Or.inl ⟨by rfl, fun W hS => detR_value (w' := W) ?_ (Below.refl _ _)⟩; have hH := hS; obtain ⟨x0, x1, x2, x3, x4, x5, x6, x7, x8, _⟩ := hH.1; go_simp; first | done | with_reducible rfl) | fail
          simp only [Act.put, List.setIfInBounds_toArray, List.set_cons_zero, List.set_cons_succ]
          refine takeW (i := 9) (v := ?_) (Stable.held _ _) rfl (by kernel_rfl) (by kernel_rfl) (by kernel_rfl) (fun _ _ _ h => h) ?_ ?_
          rotate_left
          · first | (refine Or.inr ⟨by rfl, ?_⟩; with_reducible rfl) | (refine Or.inl ⟨by rfl, fun W hS => detR_value (w' := W) ?_ (Below.refl _ _)⟩; have hH := hS; obtain ⟨x0, x1, x2, x3, x4, x5, x6, x7, x8, _⟩ := hH.1; go_simp; first | done | with_reducible rfl) | fail
          simp only [Act.put, List.setIfInBounds_toArray, List.set_cons_zero, List.set_cons_succ]
          refine takeW (i := 10) (v := ?_) (Stable.held _ _) rfl (by kernel_rfl) (by kernel_rfl) (by kernel_rfl) (fun _ _ _ h => h) ?_ ?_
          rotate_left
          · first | (refine Or.inr ⟨by rfl, ?_⟩; with_reducible rfl) | (refine Or.inl ⟨by rfl, fun W hS => ?_⟩; have hH := hS; refine detR_call (w' := W) (f := ?_) (args := ?_) ?_ ?_; rotate_left 2; (go_simp; (refine ⟨?_, ?_⟩ <;> with_reducible rfl)); (first | (with_reducible refine (HCK.out _ (HN.out.step hH.below)).mono ?_) | fail); (first | (rintro e wn ⟨rfl, hb⟩; refine ⟨?_, hb⟩; with_reducible rfl) | (rintro e wn ⟨rfl, rfl⟩; refine ⟨?_, Below.refl _ _⟩; with_reducible rfl) | fail)) | fail
          simp only [Act.put, List.setIfInBounds_toArray, List.set_cons_zero, List.set_cons_succ]
          refine takeW (i := 11) (v := ?_) (Stable.held _ _) rfl (by kernel_rfl) (by kernel_rfl) (by kernel_rfl) (fun _ _ _ h => h) ?_ ?_
          rotate_left
          · first | (refine Or.inr ⟨by rfl, ?_⟩; with_reducible rfl) | (refine Or.inl ⟨by rfl, fun W hS => detR_value (w' := W) ?_ (Below.refl _ _)⟩; have hH := hS; obtain ⟨x0, x1, x2, x3, x4, x5, x6, x7, x8, _⟩ := hH.1; go_simp; first | done | with_reducible rfl) | fail
          simp only [Act.put, List.setIfInBounds_toArray, List.set_cons_zero, List.set_cons_succ]
          refine takeW (i := 12) (v := ?_) (Stable.held _ _) rfl (by kernel_rfl) (by kernel_rfl) (by kernel_rfl) (fun _ _ _ h => h) ?_ ?_
          rotate_left
          · first | (refine Or.inl ⟨by rfl, fun W hS => detR_value (w' := W) ?_ (Below.refl _ _)⟩; have hH := hS; obtain ⟨x0, x1, x2, x3, x4, x5, x6, x7, x8, _⟩ := hH.1; go_simp; first | done | with_reducible rfl) | fail
          simp only [Act.put, List.setIfInBounds_toArray, List.set_cons_zero, List.set_cons_succ]
          refine doneW (by kernel_rfl) fun wH4 HG => ?_
          have hH := HG
          have H4 := Lib.hid hH; clear hH
          try clear x0 x1 x2 x3 x4 x5 x6 x7 x8
          obtain ⟨x0, x1, x2, x3, x4, x5, x6, x7, x8, _⟩ := H4.out.1
          go_wp2_with fail
          exact ⟨⟨k + 1, by omega, by go_num, by rw [HCI.out], ⟨H4.out.1.2.2, H4.out.2.1.2.2, H4.out.2.2⟩⟩, by simp [intOf]; omega⟩
        · rw [Bool.and_true] at HCI
          cases f
          · rw [if_pos (by simp)] at HCI
            refine regionW (fun W => Held _ W [(wr.heap.size, 0, .int .i64 (ix)), (wr.heap.size, 0 + 1, .int .i64 (iy)), (w.heap.size + 1 + 1, 0, .int .i64 (px)), (w.heap.size + 1 + 1, 1, .int .i64 (py)), (w.heap.size + 1, 0, .int .i64 (ax)), (w.heap.size + 1, 1, .int .i64 (ay)), (w.heap.size, 0, .int .i64 (sx)), (w.heap.size, 1, .int .i64 (sy)), (w.heap.size, 2, .slice (some ⟨bb, o, none⟩) xs.length c)]) (by kernel_rfl) H3.out.drew ?_
            refine takeW (i := 0) (v := ?_) (Stable.held _ _) rfl (by kernel_rfl) (by kernel_rfl) (by kernel_rfl) (fun _ _ _ h => h) ?_ ?_
            rotate_left
            · first | (refine Or.inl ⟨by rfl, fun W hS => detR_value (w' := W) ?_ (Below.refl _ _)⟩; have hH := hS; obtain ⟨x0, x1, x2, x3, x4, x5, x6, x7, x8, _⟩ := hH.1; go_simp; first | done | with_reducible rfl) | fail
            simp only [Act.put, List.setIfInBounds_toArray, List.set_cons_zero, List.set_cons_succ]
            refine takeW (i := 1) (v := ?_) (Stable.held _ _) rfl (by kernel_rfl) (by kernel_rfl) (by kernel_rfl) (fun _ _ _ h => h) ?_ ?_
            rotate_left
            · first | (refine Or.inl ⟨by rfl, fun W hS => detR_value (w' := W) ?_ (Below.refl _ _)⟩; have hH := hS; obtain ⟨x0, x1, x2, x3, x4, x5, x6, x7, x8, _⟩ := hH.1; go_simp; first | done | with_reducible rfl) | fail
            simp only [Act.put, List.setIfInBounds_toArray, List.set_cons_zero, List.set_cons_succ]
            refine takeW (i := 2) (v := ?_) (Stable.held _ _) rfl (by kernel_rfl) (by kernel_rfl) (by kernel_rfl) (fun _ _ _ h => h) ?_ ?_
            rotate_left
            · first | (refine Or.inl ⟨by rfl, fun W hS => detR_value (w' := W) ?_ (Below.refl _ _)⟩; have hH := hS; obtain ⟨x0, x1, x2, x3, x4, x5, x6, x7, x8, _⟩ := hH.1; go_simp; first | done | with_reducible rfl) | fail
            simp only [Act.put, List.setIfInBounds_toArray, List.set_cons_zero, List.set_cons_succ]
            refine takeW (i := 3) (v := ?_) (Stable.held _ _) rfl (by kernel_rfl) (by kernel_rfl) (by kernel_rfl) (fun _ _ _ h => h) ?_ ?_
            rotate_left
            · first | (refine Or.inl ⟨by rfl, fun W hS => ?_⟩; have hH := hS; refine detR_call (w' := W) (f := ?_) (args := ?_) ?_ ?_; rotate_left 2; (go_simp; (refine ⟨?_, ?_⟩ <;> with_reducible rfl)); (first | (with_reducible refine (HX.out _).mono ?_) | fail); (first | (rintro e wn ⟨rfl, hb⟩; refine ⟨?_, hb⟩; with_reducible rfl) | (rintro e wn ⟨rfl, rfl⟩; refine ⟨?_, Below.refl _ _⟩; with_reducible rfl) | fail)) | fail
            simp only [Act.put, List.setIfInBounds_toArray, List.set_cons_zero, List.set_cons_succ]
            refine takeW (i := 4) (v := ?_) (Stable.held _ _) rfl (by kernel_rfl) (by kernel_rfl) (by kernel_rfl) (fun _ _ _ h => h) ?_ ?_
            rotate_left
            · first | (refine Or.inl ⟨by rfl, fun W hS => detR_value (w' := W) ?_ (Below.refl _ _)⟩; have hH := hS; obtain ⟨x0, x1, x2, x3, x4, x5, x6, x7, x8, _⟩ := hH.1; go_simp; first | done | with_reducible rfl) | fail
            simp only [Act.put, List.setIfInBounds_toArray, List.set_cons_zero, List.set_cons_succ]
            refine takeW (i := 5) (v := ?_) (Stable.held _ _) rfl (by kernel_rfl) (by kernel_rfl) (by kernel_rfl) (fun _ _ _ h => h) ?_ ?_
            rotate_left
            · first | (refine Or.inr ⟨by rfl, ?_⟩; with_reducible rfl) | (refine Or.inl ⟨by rfl, fun W hS => detR_value (w' := W) ?_ (Below.refl _ _)⟩; have hH := hS; obtain ⟨x0, x1, x2, x3, x4, x5, x6, x7, x8, _⟩ := hH.1; go_simp; first | done | with_reducible rfl) | fail
            simp only [Act.put, List.setIfInBounds_toArray, List.set_cons_zero, List.set_cons_succ]
            refine takeW (i := 6) (v := ?_) (Stable.held _ _) rfl (by kernel_rfl) (by kernel_rfl) (by kernel_rfl) (fun _ _ _ h => h) ?_ ?_
            rotate_left
            · first | (refine Or.inr ⟨by rfl, ?_⟩; with_reducible rfl) | (refine Or.inl ⟨by rfl, fun W hS => detR_value (w' := W) ?_ (Below.refl _ _)⟩; have hH := hS; obtain ⟨x0, x1, x2, x3, x4, x5, x6, x7, x8, _⟩ := hH.1; go_simp; first | done | with_reducible rfl) | fail
            simp only [Act.put, List.setIfInBounds_toArray, List.set_cons_zero, List.set_cons_succ]
            refine takeW (i := 7) (v := ?_) (Stable.held _ _) rfl (by kernel_rfl) (by kernel_rfl) (by kernel_rfl) (fun _ _ _ h => h) ?_ ?_
            rotate_left
            · first | (refine Or.inr ⟨by rfl, ?_⟩; with_reducible rfl) | (refine Or.inl ⟨by rfl, fun W hS => detR_value (w' := W) ?_ (Below.refl _ _)⟩; have hH := hS; obtain ⟨x0, x1, x2, x3, x4, x5, x6, x7, x8, _⟩ := hH.1; go_simp; first | done | with_reducible rfl) | fail
            simp only [Act.put, List.setIfInBounds_toArray, List.set_cons_zero, List.set_cons_succ]
            refine takeW (i := 8) (v := ?_) (Stable.held _ _) rfl (by kernel_rfl) (by kernel_rfl) (by kernel_rfl) (fun _ _ _ h => h) ?_ ?_
            rotate_left
            · first | (refine Or.inr ⟨by rfl, ?_⟩; with_reducible rfl) | (refine Or.inl ⟨by rfl, fun W hS => detR_value (w' := W) ?_ (Below.refl _ _)⟩; have hH := hS; obtain ⟨x0, x1, x2, x3, x4, x5, x6, x7, x8, _⟩ := hH.1; go_simp; first | done | with_reducible rfl) | fail
            simp only [Act.put, List.setIfInBounds_toArray, List.set_cons_zero, List.set_cons_succ]
            refine takeW (i := 9) (v := ?_) (Stable.held _ _) rfl (by kernel_rfl) (by kernel_rfl) (by kernel_rfl) (fun _ _ _ h => h) ?_ ?_
            rotate_left
            · first | (refine Or.inr ⟨by rfl, ?_⟩; with_reducible rfl) | (refine Or.inl ⟨by rfl, fun W hS => detR_value (w' := W) ?_ (Below.refl _ _)⟩; have hH := hS; obtain ⟨x0, x1, x2, x3, x4, x5, x6, x7, x8, _⟩ := hH.1; go_simp; first | done | with_reducible rfl) | fail
            simp only [Act.put, List.setIfInBounds_toArray, List.set_cons_zero, List.set_cons_succ]
            refine takeW (i := 10) (v := ?_) (Stable.held _ _) rfl (by kernel_rfl) (by kernel_rfl) (by kernel_rfl) (fun _ _ _ h => h) ?_ ?_
            rotate_left
            · first | (refine Or.inr ⟨by rfl, ?_⟩; with_reducible rfl) | (refine Or.inl ⟨by rfl, fun W hS => ?_⟩; have hH := hS; refine detR_call (w' := W) (f := ?_) (args := ?_) ?_ ?_; rotate_left 2; (go_simp; (refine ⟨?_, ?_⟩ <;> with_reducible rfl)); (first | (with_reducible refine (HCK.out _ (HN.out.step hH.below)).mono ?_) | fail); (first | (rintro e wn ⟨rfl, hb⟩; refine ⟨?_, hb⟩; with_reducible rfl) | (rintro e wn ⟨rfl, rfl⟩; refine ⟨?_, Below.refl _ _⟩; with_reducible rfl) | fail)) | fail
            simp only [Act.put, List.setIfInBounds_toArray, List.set_cons_zero, List.set_cons_succ]
            refine takeW (i := 11) (v := ?_) (Stable.held _ _) rfl (by kernel_rfl) (by kernel_rfl) (by kernel_rfl) (fun _ _ _ h => h) ?_ ?_
            rotate_left
            · first | (refine Or.inr ⟨by rfl, ?_⟩; with_reducible rfl) | (refine Or.inl ⟨by rfl, fun W hS => detR_value (w' := W) ?_ (Below.refl _ _)⟩; have hH := hS; obtain ⟨x0, x1, x2, x3, x4, x5, x6, x7, x8, _⟩ := hH.1; go_simp; first | done | with_reducible rfl) | fail
            simp only [Act.put, List.setIfInBounds_toArray, List.set_cons_zero, List.set_cons_succ]
            refine takeW (i := 12) (v := ?_) (Stable.held _ _) rfl (by kernel_rfl) (by kernel_rfl) (by kernel_rfl) (fun _ _ _ h => h) ?_ ?_
            rotate_left
            · first | (refine Or.inl ⟨by rfl, fun W hS => detR_value (w' := W) ?_ (Below.refl _ _)⟩; have hH := hS; obtain ⟨x0, x1, x2, x3, x4, x5, x6, x7, x8, _⟩ := hH.1; go_simp; first | done | with_reducible rfl) | fail
            simp only [Act.put, List.setIfInBounds_toArray, List.set_cons_zero, List.set_cons_succ]
            refine doneW (by kernel_rfl) fun wH4 HG => ?_
            have hH := HG
            have H4 := Lib.hid hH; clear hH
            try clear x0 x1 x2 x3 x4 x5 x6 x7 x8
            obtain ⟨x0, x1, x2, x3, x4, x5, x6, x7, x8, _⟩ := H4.out.1
            go_wp2_with fail
            exact ⟨⟨k + 1, by omega, by go_num, by rw [HCI.out]; go_num, ⟨H4.out.1.2.2, H4.out.2.1.2.2, H4.out.2.2⟩⟩, by simp [intOf]; omega⟩
          · rw [if_neg (by simp)] at HCI
            refine regionW (fun W => Held _ W [(wr.heap.size, 0, .int .i64 (ix)), (wr.heap.size, 0 + 1, .int .i64 (iy)), (w.heap.size + 1 + 1, 0, .int .i64 (px)), (w.heap.size + 1 + 1, 1, .int .i64 (py)), (w.heap.size + 1, 0, .int .i64 (ax)), (w.heap.size + 1, 1, .int .i64 (ay)), (w.heap.size, 0, .int .i64 (sx)), (w.heap.size, 1, .int .i64 (sy)), (w.heap.size, 2, .slice (some ⟨bb, o, none⟩) xs.length c)]) (by kernel_rfl) H3.out.drew ?_
            refine takeW (i := 0) (v := ?_) (Stable.held _ _) rfl (by kernel_rfl) (by kernel_rfl) (by kernel_rfl) (fun _ _ _ h => h) ?_ ?_
            rotate_left
            · first | (refine Or.inl ⟨by rfl, fun W hS => detR_value (w' := W) ?_ (Below.refl _ _)⟩; have hH := hS; obtain ⟨x0, x1, x2, x3, x4, x5, x6, x7, x8, _⟩ := hH.1; go_simp; first | done | with_reducible rfl) | fail
            simp only [Act.put, List.setIfInBounds_toArray, List.set_cons_zero, List.set_cons_succ]
            refine takeW (i := 1) (v := ?_) (Stable.held _ _) rfl (by kernel_rfl) (by kernel_rfl) (by kernel_rfl) (fun _ _ _ h => h) ?_ ?_
            rotate_left
            · first | (refine Or.inl ⟨by rfl, fun W hS => detR_value (w' := W) ?_ (Below.refl _ _)⟩; have hH := hS; obtain ⟨x0, x1, x2, x3, x4, x5, x6, x7, x8, _⟩ := hH.1; go_simp; first | done | with_reducible rfl) | fail
            simp only [Act.put, List.setIfInBounds_toArray, List.set_cons_zero, List.set_cons_succ]
            refine takeW (i := 2) (v := ?_) (Stable.held _ _) rfl (by kernel_rfl) (by kernel_rfl) (by kernel_rfl) (fun _ _ _ h => h) ?_ ?_
            rotate_left
            · first | (refine Or.inl ⟨by rfl, fun W hS => detR_value (w' := W) ?_ (Below.refl _ _)⟩; have hH := hS; obtain ⟨x0, x1, x2, x3, x4, x5, x6, x7, x8, _⟩ := hH.1; go_simp; first | done | with_reducible rfl) | fail
            simp only [Act.put, List.setIfInBounds_toArray, List.set_cons_zero, List.set_cons_succ]
            refine takeW (i := 3) (v := ?_) (Stable.held _ _) rfl (by kernel_rfl) (by kernel_rfl) (by kernel_rfl) (fun _ _ _ h => h) ?_ ?_
            rotate_left
            · first | (refine Or.inl ⟨by rfl, fun W hS => ?_⟩; have hH := hS; refine detR_call (w' := W) (f := ?_) (args := ?_) ?_ ?_; rotate_left 2; (go_simp; (refine ⟨?_, ?_⟩ <;> with_reducible rfl)); (first | (with_reducible refine (HX.out _).mono ?_) | fail); (first | (rintro e wn ⟨rfl, hb⟩; refine ⟨?_, hb⟩; with_reducible rfl) | (rintro e wn ⟨rfl, rfl⟩; refine ⟨?_, Below.refl _ _⟩; with_reducible rfl) | fail)) | fail
            simp only [Act.put, List.setIfInBounds_toArray, List.set_cons_zero, List.set_cons_succ]
            refine takeW (i := 4) (v := ?_) (Stable.held _ _) rfl (by kernel_rfl) (by kernel_rfl) (by kernel_rfl) (fun _ _ _ h => h) ?_ ?_
            rotate_left
            · first | (refine Or.inl ⟨by rfl, fun W hS => detR_value (w' := W) ?_ (Below.refl _ _)⟩; have hH := hS; obtain ⟨x0, x1, x2, x3, x4, x5, x6, x7, x8, _⟩ := hH.1; go_simp; first | done | with_reducible rfl) | fail
            simp only [Act.put, List.setIfInBounds_toArray, List.set_cons_zero, List.set_cons_succ]
            refine takeW (i := 5) (v := ?_) (Stable.held _ _) rfl (by kernel_rfl) (by kernel_rfl) (by kernel_rfl) (fun _ _ _ h => h) ?_ ?_
            rotate_left
            · first | (refine Or.inr ⟨by rfl, ?_⟩; with_reducible rfl) | (refine Or.inl ⟨by rfl, fun W hS => detR_value (w' := W) ?_ (Below.refl _ _)⟩; have hH := hS; obtain ⟨x0, x1, x2, x3, x4, x5, x6, x7, x8, _⟩ := hH.1; go_simp; first | done | with_reducible rfl) | fail
            simp only [Act.put, List.setIfInBounds_toArray, List.set_cons_zero, List.set_cons_succ]
            refine takeW (i := 6) (v := ?_) (Stable.held _ _) rfl (by kernel_rfl) (by kernel_rfl) (by kernel_rfl) (fun _ _ _ h => h) ?_ ?_
            rotate_left
            · first | (refine Or.inr ⟨by rfl, ?_⟩; with_reducible rfl) | (refine Or.inl ⟨by rfl, fun W hS => detR_value (w' := W) ?_ (Below.refl _ _)⟩; have hH := hS; obtain ⟨x0, x1, x2, x3, x4, x5, x6, x7, x8, _⟩ := hH.1; go_simp; first | done | with_reducible rfl) | fail
            simp only [Act.put, List.setIfInBounds_toArray, List.set_cons_zero, List.set_cons_succ]
            refine takeW (i := 7) (v := ?_) (Stable.held _ _) rfl (by kernel_rfl) (by kernel_rfl) (by kernel_rfl) (fun _ _ _ h => h) ?_ ?_
            rotate_left
            · first | (refine Or.inr ⟨by rfl, ?_⟩; with_reducible rfl) | (refine Or.inl ⟨by rfl, fun W hS => detR_value (w' := W) ?_ (Below.refl _ _)⟩; have hH := hS; obtain ⟨x0, x1, x2, x3, x4, x5, x6, x7, x8, _⟩ := hH.1; go_simp; first | done | with_reducible rfl) | fail
            simp only [Act.put, List.setIfInBounds_toArray, List.set_cons_zero, List.set_cons_succ]
            refine takeW (i := 8) (v := ?_) (Stable.held _ _) rfl (by kernel_rfl) (by kernel_rfl) (by kernel_rfl) (fun _ _ _ h => h) ?_ ?_
            rotate_left
            · first | (refine Or.inr ⟨by rfl, ?_⟩; with_reducible rfl) | (refine Or.inl ⟨by rfl, fun W hS => detR_value (w' := W) ?_ (Below.refl _ _)⟩; have hH := hS; obtain ⟨x0, x1, x2, x3, x4, x5, x6, x7, x8, _⟩ := hH.1; go_simp; first | done | with_reducible rfl) | fail
            simp only [Act.put, List.setIfInBounds_toArray, List.set_cons_zero, List.set_cons_succ]
            refine takeW (i := 9) (v := ?_) (Stable.held _ _) rfl (by kernel_rfl) (by kernel_rfl) (by kernel_rfl) (fun _ _ _ h => h) ?_ ?_
            rotate_left
            · first | (refine Or.inr ⟨by rfl, ?_⟩; with_reducible rfl) | (refine Or.inl ⟨by rfl, fun W hS => detR_value (w' := W) ?_ (Below.refl _ _)⟩; have hH := hS; obtain ⟨x0, x1, x2, x3, x4, x5, x6, x7, x8, _⟩ := hH.1; go_simp; first | done | with_reducible rfl) | fail
            simp only [Act.put, List.setIfInBounds_toArray, List.set_cons_zero, List.set_cons_succ]
            refine takeW (i := 10) (v := ?_) (Stable.held _ _) rfl (by kernel_rfl) (by kernel_rfl) (by kernel_rfl) (fun _ _ _ h => h) ?_ ?_
            rotate_left
            · first | (refine Or.inr ⟨by rfl, ?_⟩; with_reducible rfl) | (refine Or.inl ⟨by rfl, fun W hS => ?_⟩; have hH := hS; refine detR_call (w' := W) (f := ?_) (args := ?_) ?_ ?_; rotate_left 2; (go_simp; (refine ⟨?_, ?_⟩ <;> with_reducible rfl)); (first | (with_reducible refine (HCK.out _ (HN.out.step hH.below)).mono ?_) | fail); (first | (rintro e wn ⟨rfl, hb⟩; refine ⟨?_, hb⟩; with_reducible rfl) | (rintro e wn ⟨rfl, rfl⟩; refine ⟨?_, Below.refl _ _⟩; with_reducible rfl) | fail)) | fail
            simp only [Act.put, List.setIfInBounds_toArray, List.set_cons_zero, List.set_cons_succ]
            refine takeW (i := 11) (v := ?_) (Stable.held _ _) rfl (by kernel_rfl) (by kernel_rfl) (by kernel_rfl) (fun _ _ _ h => h) ?_ ?_
            rotate_left
            · first | (refine Or.inr ⟨by rfl, ?_⟩; with_reducible rfl) | (refine Or.inl ⟨by rfl, fun W hS => detR_value (w' := W) ?_ (Below.refl _ _)⟩; have hH := hS; obtain ⟨x0, x1, x2, x3, x4, x5, x6, x7, x8, _⟩ := hH.1; go_simp; first | done | with_reducible rfl) | fail
            simp only [Act.put, List.setIfInBounds_toArray, List.set_cons_zero, List.set_cons_succ]
            refine takeW (i := 12) (v := ?_) (Stable.held _ _) rfl (by kernel_rfl) (by kernel_rfl) (by kernel_rfl) (fun _ _ _ h => h) ?_ ?_
            rotate_left
            · first | (refine Or.inl ⟨by rfl, fun W hS => detR_value (w' := W) ?_ (Below.refl _ _)⟩; have hH := hS; obtain ⟨x0, x1, x2, x3, x4, x5, x6, x7, x8, _⟩ := hH.1; go_simp; first | done | with_reducible rfl) | fail
            simp only [Act.put, List.setIfInBounds_toArray, List.set_cons_zero, List.set_cons_succ]
            refine doneW (by kernel_rfl) fun wH4 HG => ?_
            have hH := HG
            have H4 := Lib.hid hH; clear hH
            try clear x0 x1 x2 x3 x4 x5 x6 x7 x8
            obtain ⟨x0, x1, x2, x3, x4, x5, x6, x7, x8, _⟩ := H4.out.1
            go_wp2_with fail
            exact ⟨⟨k + 1, by omega, by go_num, by rw [HCI.out], ⟨H4.out.1.2.2, H4.out.2.1.2.2, H4.out.2.2⟩⟩, by simp [intOf]; omega⟩
      · obtain rfl : k = xs.length := by omega
        have hz1 : ¬ (xs.length : Int) < (xs.length : Int) := by omega
        obtain ⟨x0, x1, x2, x3, x4, x5, x6, _⟩ := H1.out.1
        go_wp2_with fail
        go_ret
        exact ⟨ret_int (by rw [HRB.out]), H1.out.below⟩
  · have HRB := Lib.hid (show r = 0 from by
      cases d2
      · exact HF.out (.inr (.inl rfl))
      · cases d3
        · exact HF.out (.inr (.inr rfl))
        · exact absurd rfl hd)
    have hdf : (d2 && d3) = false := by simpa using hd
    rw [hdf]
    clear hd hdf
    go_wp2_with fail
    go_ret
    exact ⟨ret_int (by rw [HRB.out]), H2.out.below⟩
end Go.Proofs.Ytfppnaknnijobab
