/-
  Turned and mirrored shapes, of the model and of the program.
-/
import Derived.Test.YtfppnaknnijobaaShpT
namespace Go.Proofs.Ytfppnaknnijobaa
open Go.RowKit
set_option linter.unusedVariables false
set_option linter.unusedSimpArgs false

theorem held_moreS {w W : World} {fs gs : List (Nat × Nat × Value)} (h : Held w W fs) (hc : Cs W gs) (hb : Bs W.heap.size gs) : Held w W (fs ++ gs) :=
  ⟨h.1.append hc, h.2.1.append hb, h.2.2⟩
theorem movN_nil (f : Nd → Nd) (xs : List Nd) : movN f xs 0 = [] := rfl
theorem revN_succ (f : Nd → Nd) {xs : List Nd} {k : Nat} (h : k < xs.length) : movN f xs.reverse (k + 1) = movN f xs.reverse k ++ [f (atN xs (xs.length - 1 - k))] := by
  rw [movN_succ f (by simpa using h), atN_rev h]
theorem revN_all (f : Nd → Nd) (xs : List Nd) : movN f xs.reverse xs.length = (xs.map f).reverse := by
  rw [← List.length_reverse, movN_all, List.map_reverse]
theorem revN_len (f : Nd → Nd) {xs : List Nd} (k : Nat) (h : k ≤ xs.length) : (movN f xs.reverse k).length = k := movN_len f k (by simpa using h)

set_option maxRecDepth 100000 in
set_option maxHeartbeats 4000000 in
theorem specTurnS (xs : List Nd) (v : Value) (w : World) (hv : Prs w v xs) (hl : xs.length ≤ 1048576) :
    Calls Try.prog 39 #[v] w (OwnRet 49 (turnL xs) w) := by
  have hlen := hv.len
  have HOK := Lib.hid (fun w h => specShpOk xs v w h)
  have HR := Lib.hid (show turnL xs = if shpB xs = true then fitL (xs.map tlN) else [] from rfl)
  have HSB := Lib.hid (fun h => (shpB_iff xs).1 h)
  have HU := Lib.hid (fun m (h : m < xs.length) => movN_succ tlN h)
  have HLN := Lib.hid (fun m (h : m ≤ xs.length) => movN_len tlN m h)
  have HZ := Lib.hid (movN_nil tlN xs)
  have HE := Lib.hid (movN_all tlN xs)
  have HML := Lib.hid (show (xs.map tlN).length = xs.length from List.length_map _)
  have HSM := Lib.hid (fun h => sml_tl (s := xs) h)
  generalize xs.map tlN = M at *
  generalize movN tlN xs = X at *
  have HFT := Lib.hid (fun v w h h0 hl hs => specFit M v w h h0 hl hs)
  unfold OwnSome at HFT
  generalize turnL xs = R at *
  generalize fitL M = FM at *
  have HN := Lib.hid hv
  obtain ⟨A, c, rfl⟩ := prs_form2 hv
  clear hv
  have H0 := Lib.hid ((Held.none_ w).alloc (.cells #[] 49))
  have HI0 := Lib.hid (Own.made w w.heap.size w.heap.size 49 rfl (Nat.le_refl _))
  generalize shpB xs = d at *
  cases d
  · have HRF := Lib.hid (show R = [] from by rw [HR.out]; rfl)
    go_enter Try.func39, Try.ntmps39
    go_wp2_with fail
    refine (HOK.out _ (HN.out.step H0.out.below)).mono ?_
    rintro e wH1 ⟨rfl, hb⟩
    have HI0 := Lib.hid (HI0.out.step hb)
    have H1 := Lib.hid ((H0.out).step hb); clear hb
    go_wp2_with fail
    go_ret
    exact ⟨_, rfl, by rw [HRF.out]; exact HI0.out, H1.out.below⟩
  · have HRT := Lib.hid (show R = FM from by rw [HR.out]; rfl)
    obtain ⟨h0, hok⟩ := HSB.out rfl
    have HOKS := Lib.hid (HSM.out hok)
    clear hok
    have HOKJ := Lib.hid (HSB.out rfl).2
    go_enter Try.func39, Try.ntmps39
    go_wp2_with fail
    refine (HOK.out _ (HN.out.step H0.out.below)).mono ?_
    rintro e wH1 ⟨rfl, hb⟩
    have HI0 := Lib.hid (HI0.out.step hb)
    have H1 := Lib.hid ((H0.out).step hb); clear hb
    go_wp2_with fail
    go_loopw [3, 4] (fun v i wr => ∃ m : Nat, m ≤ xs.length ∧ i = .int .i64 m ∧ RowN w.heap.size v (X m) wr ∧ Held w wr []) (fun _ i _ => xs.length - (intOf i).toNat)
    case atStart => exact ⟨0, Nat.zero_le _, rfl, ⟨by rw [HZ.out]; exact HI0.out, H1.out.below.size⟩, H1.out⟩
    case round =>
      clear H1 HI0
      obtain ⟨m, hm, rfl, hown, hh⟩ := hrel
      have HO := Lib.hid hown; clear hown
      have H1 := Lib.hid hh; clear hh
      by_cases hlt : m < xs.length
      · have HUM := Lib.hid (HU.out m hlt)
        have hln := HLN.out m hm
        have hln' : (X m).length ≤ 1048576 := by omega
        have HLX := Lib.hid hln'
        clear hln hln'
        have hj := hlt
        have q1 : (0 : Int) ≤ m := by omega
        have q2 : (m : Int) < (xs.length : Int) := by omega
        obtain ⟨bb, o, c', he, hbl, hcs⟩ := prs_at2 HN.out hj
        injection he with he1 he2 he3
        subst he1
        clear he2 he3
        have hbr := Nat.lt_of_lt_of_le hbl H1.out.below.size
        have H2 := Lib.hid (held_moreS H1.out (gs := [(bb, o + m * 2, .int .i64 (atN xs m).x), (bb, o + m * 2 + 1, .int .i64 (atN xs m).y)]) ⟨(H1.out.below.cell (p := ⟨bb, _, none⟩) hbl).trans (hcs m hj).1, (H1.out.below.cell (p := ⟨bb, _, none⟩) hbl).trans (hcs m hj).2, trivial⟩ ⟨hbr, hbr, trivial⟩)
        have HBB := Lib.hid hbl
        have HOI := Lib.hid HO.out.1
        have HBL := Lib.hid HO.out.2
        have hokj := HOKJ.out m hj
        clear hcs hbl hbr
        generalize hn : atN xs m = n at *
        obtain ⟨nx, ny⟩ := n
        have hb2 := (okB_iff _).1 hokj
        clear hokj hn
        simp only [List.nil_append] at hb2 H2
        unfold tlN at HUM
        simp only at HUM
        have e1 : IntKind.i64.wrap (-ny) = -ny := IntWalk.i64_in _ (by omega)
        clear hb2
        obtain ⟨x0, x1, _⟩ := H2.out.1
        go_wp2_with fail
        refine regionC (C := fun W => Held w W [(bb, o + m * 2, .int .i64 (nx)), (bb, o + m * 2 + 1, .int .i64 (ny))]) (fun W => Held w W [(bb, o + m * 2, .int .i64 (nx)), (bb, o + m * 2 + 1, .int .i64 (ny))] ∧ RowN w.heap.size u3 (X m) W) (by kernel_rfl) ⟨H2.out.drew, HOI.out.step ((Below.refl _ _).drew), HBL.out⟩ ?_
        refine takeC (i := 0) (v := ?_) (Stable.and (Stable.held _ _) (stable_rowN _ _ _)) (fun _ h => h.1) rfl (by kernel_rfl) (by kernel_rfl) (by kernel_rfl) (fun _ _ _ h => h) ?_ ?_
        rotate_left
        · first | (refine Or.inl ⟨by rfl, fun W hS => detR_value (w' := W) ?_ (Below.refl _ _)⟩; obtain ⟨x0, x1, _⟩ := hS.1; go_simp; first | done | with_reducible rfl) | fail
        simp only [Act.put, List.setIfInBounds_toArray, List.set_cons_zero, List.set_cons_succ]
        refine takeC (i := 1) (v := ?_) (Stable.and (Stable.held _ _) (stable_rowN _ _ _)) (fun _ h => h.1) rfl (by kernel_rfl) (by kernel_rfl) (by kernel_rfl) (fun _ _ _ h => h) ?_ ?_
        rotate_left
        · first | (refine Or.inl ⟨by rfl, fun W hS => detR_value (w' := W) ?_ (Below.refl _ _)⟩; obtain ⟨x0, x1, _⟩ := hS.1; go_simp; first | done | with_reducible rfl) | fail
        simp only [Act.put, List.setIfInBounds_toArray, List.set_cons_zero, List.set_cons_succ]
        refine takeC (i := 2) (v := ?_) (Stable.and (Stable.held _ _) (stable_rowN _ _ _)) (fun _ h => h.1) rfl (by kernel_rfl) (by kernel_rfl) (by kernel_rfl) (fun _ _ _ h => h) ?_ ?_
        rotate_left
        · first | (refine Or.inl ⟨by rfl, fun W hS => detR_value (w' := W) ?_ (Below.refl _ _)⟩; obtain ⟨x0, x1, _⟩ := hS.1; go_simp; first | done | with_reducible rfl) | fail
        simp only [Act.put, List.setIfInBounds_toArray, List.set_cons_zero, List.set_cons_succ]
        refine takeC (i := 3) (v := ?_) (Stable.and (Stable.held _ _) (stable_rowN _ _ _)) (fun _ h => h.1) rfl (by kernel_rfl) (by kernel_rfl) (by kernel_rfl) (fun _ _ _ h => h) ?_ ?_
        rotate_left
        · first | (refine Or.inl ⟨by rfl, fun W hS => detR_value (w' := W) ?_ (Below.refl _ _)⟩; obtain ⟨x0, x1, _⟩ := hS.1; go_simp; first | done | with_reducible rfl) | fail
        simp only [Act.put, List.setIfInBounds_toArray, List.set_cons_zero, List.set_cons_succ]
        refine takeC (i := 4) (v := ?_) (Stable.and (Stable.held _ _) (stable_rowN _ _ _)) (fun _ h => h.1) rfl (by kernel_rfl) (by kernel_rfl) (by kernel_rfl) (fun _ _ _ h => h) ?_ ?_
        rotate_left
        · first | (refine Or.inl ⟨by rfl, fun W hS => detR_value (w' := W) ?_ (Below.refl _ _)⟩; obtain ⟨x0, x1, _⟩ := hS.1; go_simp; first | done | with_reducible rfl) | fail
        simp only [Act.put, List.setIfInBounds_toArray, List.set_cons_zero, List.set_cons_succ]
        refine takeC (i := 5) (v := ?_) (Stable.and (Stable.held _ _) (stable_rowN _ _ _)) (fun _ h => h.1) rfl (by kernel_rfl) (by kernel_rfl) (by kernel_rfl) (fun _ _ _ h => h) ?_ ?_
        rotate_left
        · first | (refine Or.inl ⟨by rfl, fun W hS => detR_value (w' := W) ?_ (Below.refl _ _)⟩; obtain ⟨x0, x1, _⟩ := hS.1; go_simp; first | done | with_reducible rfl) | fail
        simp only [Act.put, List.setIfInBounds_toArray, List.set_cons_zero, List.set_cons_succ]
        refine takeC (i := 6) (v := ?_) (Stable.and (Stable.held _ _) (stable_rowN _ _ _)) (fun _ h => h.1) rfl (by kernel_rfl) (by kernel_rfl) (by kernel_rfl) (fun _ _ _ h => h) ?_ ?_
        rotate_left
        · first | (refine Or.inl ⟨by rfl, fun W hS => detR_value (w' := W) ?_ (Below.refl _ _)⟩; obtain ⟨x0, x1, _⟩ := hS.1; go_simp; first | done | with_reducible rfl) | fail
        simp only [Act.put, List.setIfInBounds_toArray, List.set_cons_zero, List.set_cons_succ]
        refine takeC (i := 7) (v := ?_) (Stable.and (Stable.held _ _) (stable_rowN _ _ _)) (fun _ h => h.1) rfl (by kernel_rfl) (by kernel_rfl) (by kernel_rfl) (fun _ _ _ h => h) ?_ ?_
        rotate_left
        · first | (refine Or.inl ⟨by rfl, fun W hS => detR_value (w' := W) ?_ (Below.refl _ _)⟩; obtain ⟨x0, x1, _⟩ := hS.1; go_simp; first | done | with_reducible rfl) | fail
        simp only [Act.put, List.setIfInBounds_toArray, List.set_cons_zero, List.set_cons_succ]
        refine takeC (i := 8) (v := ?_) (Stable.and (Stable.held _ _) (stable_rowN _ _ _)) (fun _ h => h.1) rfl (by kernel_rfl) (by kernel_rfl) (by kernel_rfl) (fun _ _ _ h => h) ?_ ?_
        rotate_left
        · first | (refine Or.inl ⟨by rfl, fun W hS => detR_value (w' := W) ?_ (Below.refl _ _)⟩; obtain ⟨x0, x1, _⟩ := hS.1; go_simp; first | done | with_reducible rfl) | fail
        simp only [Act.put, List.setIfInBounds_toArray, List.set_cons_zero, List.set_cons_succ]
        refine takeC (i := 9) (v := ?_) (Stable.and (Stable.held _ _) (stable_rowN _ _ _)) (fun _ h => h.1) rfl (by kernel_rfl) (by kernel_rfl) (by kernel_rfl) (fun _ _ _ h => h) ?_ ?_
        rotate_left
        · first | (refine Or.inl ⟨by rfl, fun W hS => detR_value (w' := W) ?_ (Below.refl _ _)⟩; obtain ⟨x0, x1, _⟩ := hS.1; go_simp; first | done | with_reducible rfl) | fail
        simp only [Act.put, List.setIfInBounds_toArray, List.set_cons_zero, List.set_cons_succ]
        refine takeC (i := 10) (v := ?_) (Stable.and (Stable.held _ _) (stable_rowN _ _ _)) (fun _ h => h.1) rfl (by kernel_rfl) (by kernel_rfl) (by kernel_rfl) (fun _ _ _ h => h) ?_ ?_
        rotate_left
        · first | (refine Or.inl ⟨by rfl, fun W hS => detR_value (w' := W) ?_ (Below.refl _ _)⟩; obtain ⟨x0, x1, _⟩ := hS.1; go_simp; first | done | with_reducible rfl) | fail
        simp only [Act.put, List.setIfInBounds_toArray, List.set_cons_zero, List.set_cons_succ]
        refine takeC (i := 11) (v := ?_) (Stable.and (Stable.held _ _) (stable_rowN _ _ _)) (fun _ h => h.1) rfl (by kernel_rfl) (by kernel_rfl) (by kernel_rfl) (fun _ _ _ h => h) ?_ ?_
        rotate_left
        · first | (refine Or.inl ⟨by rfl, fun W hS => detR_value (w' := W) ?_ (Below.refl _ _)⟩; obtain ⟨x0, x1, _⟩ := hS.1; go_simp; first | done | with_reducible rfl) | fail
        simp only [Act.put, List.setIfInBounds_toArray, List.set_cons_zero, List.set_cons_succ]
        refine takeC (i := 12) (v := ?_) (Stable.and (Stable.held _ _) (stable_rowN _ _ _)) (fun _ h => h.1) rfl (by kernel_rfl) (by kernel_rfl) (by kernel_rfl) (fun _ _ _ h => h) ?_ ?_
        rotate_left
        · first | (refine Or.inl ⟨by rfl, fun W hS => detR_value (w' := W) ?_ (Below.refl _ _)⟩; obtain ⟨x0, x1, _⟩ := hS.1; go_simp; first | done | with_reducible rfl) | fail
        simp only [Act.put, List.setIfInBounds_toArray, List.set_cons_zero, List.set_cons_succ]
        refine freeC (i := 13) (OneN (-ny) (nx)) (Stable.and (Stable.held _ _) (stable_rowN _ _ _)) (fun _ h => h.1) (fun v => stable_oneN _ _ v) rfl (by kernel_rfl) (by rfl) (fun W hS => freeR_oneN (by go_simp; first | done | with_reducible rfl)) (fun v1H3 => ?_)
        simp only [Act.put, List.setIfInBounds_toArray, List.set_cons_zero, List.set_cons_succ]
        refine appN (i := 14) (px := -ny) (py := nx) (Operand.tmp 16) (Operand.tmp 29) rfl (by kernel_rfl) (by rfl) rfl (by rfl) (by rfl) ⟨HBB.out, HBB.out, trivial⟩ (Nat.le_refl _) HLX.out (fun vaH3 => ?_)
        simp only [Act.put, List.setIfInBounds_toArray, List.set_cons_zero, List.set_cons_succ]
        refine takeC (i := 15) (v := ?_) (Stable.and (Stable.held _ _) (stable_rowN _ _ _)) (fun _ h => h.1) rfl (by kernel_rfl) (by kernel_rfl) (by kernel_rfl) (fun _ _ _ h => h) ?_ ?_
        rotate_left
        · first | (refine Or.inl ⟨by rfl, fun W hS => detR_value (w' := W) ?_ (Below.refl _ _)⟩; obtain ⟨x0, x1, _⟩ := hS.1; go_simp; first | done | with_reducible rfl) | fail
        simp only [Act.put, List.setIfInBounds_toArray, List.set_cons_zero, List.set_cons_succ]
        refine doneC (by kernel_rfl) fun wH3 HG => ?_
        obtain ⟨hH, hR⟩ := HG
        have H3 := Lib.hid hH; clear hH
        have RH3 := Lib.hid hR; clear hR
        try clear x0 x1
        obtain ⟨x0, x1, _⟩ := H3.out.1
        go_wp2_with fail
        exact ⟨⟨m + 1, by omega, by go_num, by rw [HUM.out]; exact RH3.out, H3.out.only (fun _ => trivial) (fun _ => trivial)⟩, by simp [intOf] <;> omega⟩
      · obtain rfl : m = xs.length := by omega
        have hml := HML.out
        have HMI := Lib.hid (show RowN w.heap.size _ M wr from by rw [← HE.out]; exact HO.out)
        have hrl := HMI.out.2
        
        go_wp2_with fail
        refine (HFT.out _ _ HMI.out.1.prs (by omega) (by omega) HOKS.out).mono ?_
        rintro e w4 ⟨g, cg, rfl, ho, hb⟩
        have H4 := Lib.hid (H1.out.step hb)
        have HO4 := Lib.hid (ho.mono hrl)
        clear ho hb
        go_wp2_with fail
        go_ret
        exact ⟨_, rfl, by rw [HRT.out]; exact HO4.out, H4.out.below⟩

set_option maxRecDepth 100000 in
set_option maxHeartbeats 4000000 in
theorem specMirrS (xs : List Nd) (v : Value) (w : World) (hv : Prs w v xs) (hl : xs.length ≤ 1048576) :
    Calls Try.prog 45 #[v] w (OwnRet 49 (mirrL xs) w) := by
  have hlen := hv.len
  have HOK := Lib.hid (fun w h => specShpOk xs v w h)
  have HR := Lib.hid (show mirrL xs = if shpB xs = true then fitL ((xs.map mrN).reverse) else [] from rfl)
  have HSB := Lib.hid (fun h => (shpB_iff xs).1 h)
  have HU := Lib.hid (fun m (h : m < xs.length) => revN_succ mrN h)
  have HLN := Lib.hid (fun m (h : m ≤ xs.length) => revN_len mrN m h)
  have HZ := Lib.hid (movN_nil mrN xs.reverse)
  have HE := Lib.hid (revN_all mrN xs)
  have HML := Lib.hid (show ((xs.map mrN).reverse).length = xs.length from by rw [List.length_reverse, List.length_map])
  have HSM := Lib.hid (fun h => sml_mr (s := xs) h)
  generalize (xs.map mrN).reverse = M at *
  generalize movN mrN xs.reverse = X at *
  have HFT := Lib.hid (fun v w h h0 hl hs => specFit M v w h h0 hl hs)
  unfold OwnSome at HFT
  generalize mirrL xs = R at *
  generalize fitL M = FM at *
  have HN := Lib.hid hv
  obtain ⟨A, c, rfl⟩ := prs_form2 hv
  clear hv
  have H0 := Lib.hid ((Held.none_ w).alloc (.cells #[] 49))
  have HI0 := Lib.hid (Own.made w w.heap.size w.heap.size 49 rfl (Nat.le_refl _))
  generalize shpB xs = d at *
  cases d
  · have HRF := Lib.hid (show R = [] from by rw [HR.out]; rfl)
    go_enter Try.func45, Try.ntmps45
    go_wp2_with fail
    refine (HOK.out _ (HN.out.step H0.out.below)).mono ?_
    rintro e wH1 ⟨rfl, hb⟩
    have HI0 := Lib.hid (HI0.out.step hb)
    have H1 := Lib.hid ((H0.out).step hb); clear hb
    go_wp2_with fail
    go_ret
    exact ⟨_, rfl, by rw [HRF.out]; exact HI0.out, H1.out.below⟩
  · have HRT := Lib.hid (show R = FM from by rw [HR.out]; rfl)
    obtain ⟨h0, hok⟩ := HSB.out rfl
    have HOKS := Lib.hid (HSM.out hok)
    clear hok
    have HOKJ := Lib.hid (HSB.out rfl).2
    have ew : IntKind.i64.wrap ((xs.length : Int) - 1) = (xs.length : Int) - 1 := IntWalk.i64_in _ (by omega)
    go_enter Try.func45, Try.ntmps45
    go_wp2_with fail
    refine (HOK.out _ (HN.out.step H0.out.below)).mono ?_
    rintro e wH1 ⟨rfl, hb⟩
    have HI0 := Lib.hid (HI0.out.step hb)
    have H1 := Lib.hid ((H0.out).step hb); clear hb
    go_wp2_with fail
    go_loopw [3, 4] (fun v i wr => ∃ m : Nat, m ≤ xs.length ∧ i = .int .i64 ((xs.length : Int) - 1 - (m : Int)) ∧ RowN w.heap.size v (X m) wr ∧ Held w wr []) (fun _ i _ => (intOf i + 1).toNat)
    case atStart => exact ⟨0, Nat.zero_le _, by congr 1; omega, ⟨by rw [HZ.out]; exact HI0.out, H1.out.below.size⟩, H1.out⟩
    case round =>
      clear H1 HI0
      obtain ⟨m, hm, rfl, hown, hh⟩ := hrel
      have HO := Lib.hid hown; clear hown
      have H1 := Lib.hid hh; clear hh
      by_cases hlt : m < xs.length
      · have HUM := Lib.hid (HU.out m hlt)
        have hln := HLN.out m hm
        have hln' : (X m).length ≤ 1048576 := by omega
        have HLX := Lib.hid hln'
        clear hln hln'
        obtain ⟨j, hj0⟩ : ∃ j, xs.length - 1 - m = j := ⟨_, rfl⟩
        have hij : (xs.length : Int) - 1 - (m : Int) = (j : Int) := by omega
        rw [hj0] at HUM
        rw [hij]
        have hj : j < xs.length := by omega
        have q1 : (0 : Int) ≤ j := by omega
        have q2 : (j : Int) < (xs.length : Int) := by omega
        have HIJ := Lib.hid hij
        clear hij hj0
        obtain ⟨bb, o, c', he, hbl, hcs⟩ := prs_at2 HN.out hj
        injection he with he1 he2 he3
        subst he1
        clear he2 he3
        have hbr := Nat.lt_of_lt_of_le hbl H1.out.below.size
        have H2 := Lib.hid (held_moreS H1.out (gs := [(bb, o + j * 2, .int .i64 (atN xs j).x), (bb, o + j * 2 + 1, .int .i64 (atN xs j).y)]) ⟨(H1.out.below.cell (p := ⟨bb, _, none⟩) hbl).trans (hcs j hj).1, (H1.out.below.cell (p := ⟨bb, _, none⟩) hbl).trans (hcs j hj).2, trivial⟩ ⟨hbr, hbr, trivial⟩)
        have HBB := Lib.hid hbl
        have HOI := Lib.hid HO.out.1
        have HBL := Lib.hid HO.out.2
        have hokj := HOKJ.out j hj
        clear hcs hbl hbr
        generalize hn : atN xs j = n at *
        obtain ⟨nx, ny⟩ := n
        have hb2 := (okB_iff _).1 hokj
        clear hokj hn
        simp only [List.nil_append] at hb2 H2
        unfold mrN at HUM
        simp only at HUM
        have e1 : IntKind.i64.wrap (-nx) = -nx := IntWalk.i64_in _ (by omega)
        clear hb2
        obtain ⟨x0, x1, _⟩ := H2.out.1
        go_wp2_with fail
        refine regionC (C := fun W => Held w W [(bb, o + j * 2, .int .i64 (nx)), (bb, o + j * 2 + 1, .int .i64 (ny))]) (fun W => Held w W [(bb, o + j * 2, .int .i64 (nx)), (bb, o + j * 2 + 1, .int .i64 (ny))] ∧ RowN w.heap.size u3 (X m) W) (by kernel_rfl) ⟨H2.out.drew, HOI.out.step ((Below.refl _ _).drew), HBL.out⟩ ?_
        refine takeC (i := 0) (v := ?_) (Stable.and (Stable.held _ _) (stable_rowN _ _ _)) (fun _ h => h.1) rfl (by kernel_rfl) (by kernel_rfl) (by kernel_rfl) (fun _ _ _ h => h) ?_ ?_
        rotate_left
        · first | (refine Or.inl ⟨by rfl, fun W hS => detR_value (w' := W) ?_ (Below.refl _ _)⟩; obtain ⟨x0, x1, _⟩ := hS.1; go_simp; first | done | with_reducible rfl) | fail
        simp only [Act.put, List.setIfInBounds_toArray, List.set_cons_zero, List.set_cons_succ]
        refine takeC (i := 1) (v := ?_) (Stable.and (Stable.held _ _) (stable_rowN _ _ _)) (fun _ h => h.1) rfl (by kernel_rfl) (by kernel_rfl) (by kernel_rfl) (fun _ _ _ h => h) ?_ ?_
        rotate_left
        · first | (refine Or.inl ⟨by rfl, fun W hS => detR_value (w' := W) ?_ (Below.refl _ _)⟩; obtain ⟨x0, x1, _⟩ := hS.1; go_simp; first | done | with_reducible rfl) | fail
        simp only [Act.put, List.setIfInBounds_toArray, List.set_cons_zero, List.set_cons_succ]
        refine takeC (i := 2) (v := ?_) (Stable.and (Stable.held _ _) (stable_rowN _ _ _)) (fun _ h => h.1) rfl (by kernel_rfl) (by kernel_rfl) (by kernel_rfl) (fun _ _ _ h => h) ?_ ?_
        rotate_left
        · first | (refine Or.inl ⟨by rfl, fun W hS => detR_value (w' := W) ?_ (Below.refl _ _)⟩; obtain ⟨x0, x1, _⟩ := hS.1; go_simp; first | done | with_reducible rfl) | fail
        simp only [Act.put, List.setIfInBounds_toArray, List.set_cons_zero, List.set_cons_succ]
        refine takeC (i := 3) (v := ?_) (Stable.and (Stable.held _ _) (stable_rowN _ _ _)) (fun _ h => h.1) rfl (by kernel_rfl) (by kernel_rfl) (by kernel_rfl) (fun _ _ _ h => h) ?_ ?_
        rotate_left
        · first | (refine Or.inl ⟨by rfl, fun W hS => detR_value (w' := W) ?_ (Below.refl _ _)⟩; obtain ⟨x0, x1, _⟩ := hS.1; go_simp; first | done | with_reducible rfl) | fail
        simp only [Act.put, List.setIfInBounds_toArray, List.set_cons_zero, List.set_cons_succ]
        refine takeC (i := 4) (v := ?_) (Stable.and (Stable.held _ _) (stable_rowN _ _ _)) (fun _ h => h.1) rfl (by kernel_rfl) (by kernel_rfl) (by kernel_rfl) (fun _ _ _ h => h) ?_ ?_
        rotate_left
        · first | (refine Or.inl ⟨by rfl, fun W hS => detR_value (w' := W) ?_ (Below.refl _ _)⟩; obtain ⟨x0, x1, _⟩ := hS.1; go_simp; first | done | with_reducible rfl) | fail
        simp only [Act.put, List.setIfInBounds_toArray, List.set_cons_zero, List.set_cons_succ]
        refine takeC (i := 5) (v := ?_) (Stable.and (Stable.held _ _) (stable_rowN _ _ _)) (fun _ h => h.1) rfl (by kernel_rfl) (by kernel_rfl) (by kernel_rfl) (fun _ _ _ h => h) ?_ ?_
        rotate_left
        · first | (refine Or.inl ⟨by rfl, fun W hS => detR_value (w' := W) ?_ (Below.refl _ _)⟩; obtain ⟨x0, x1, _⟩ := hS.1; go_simp; first | done | with_reducible rfl) | fail
        simp only [Act.put, List.setIfInBounds_toArray, List.set_cons_zero, List.set_cons_succ]
        refine takeC (i := 6) (v := ?_) (Stable.and (Stable.held _ _) (stable_rowN _ _ _)) (fun _ h => h.1) rfl (by kernel_rfl) (by kernel_rfl) (by kernel_rfl) (fun _ _ _ h => h) ?_ ?_
        rotate_left
        · first | (refine Or.inl ⟨by rfl, fun W hS => detR_value (w' := W) ?_ (Below.refl _ _)⟩; obtain ⟨x0, x1, _⟩ := hS.1; go_simp; first | done | with_reducible rfl) | fail
        simp only [Act.put, List.setIfInBounds_toArray, List.set_cons_zero, List.set_cons_succ]
        refine takeC (i := 7) (v := ?_) (Stable.and (Stable.held _ _) (stable_rowN _ _ _)) (fun _ h => h.1) rfl (by kernel_rfl) (by kernel_rfl) (by kernel_rfl) (fun _ _ _ h => h) ?_ ?_
        rotate_left
        · first | (refine Or.inl ⟨by rfl, fun W hS => detR_value (w' := W) ?_ (Below.refl _ _)⟩; obtain ⟨x0, x1, _⟩ := hS.1; go_simp; first | done | with_reducible rfl) | fail
        simp only [Act.put, List.setIfInBounds_toArray, List.set_cons_zero, List.set_cons_succ]
        refine takeC (i := 8) (v := ?_) (Stable.and (Stable.held _ _) (stable_rowN _ _ _)) (fun _ h => h.1) rfl (by kernel_rfl) (by kernel_rfl) (by kernel_rfl) (fun _ _ _ h => h) ?_ ?_
        rotate_left
        · first | (refine Or.inl ⟨by rfl, fun W hS => detR_value (w' := W) ?_ (Below.refl _ _)⟩; obtain ⟨x0, x1, _⟩ := hS.1; go_simp; first | done | with_reducible rfl) | fail
        simp only [Act.put, List.setIfInBounds_toArray, List.set_cons_zero, List.set_cons_succ]
        refine takeC (i := 9) (v := ?_) (Stable.and (Stable.held _ _) (stable_rowN _ _ _)) (fun _ h => h.1) rfl (by kernel_rfl) (by kernel_rfl) (by kernel_rfl) (fun _ _ _ h => h) ?_ ?_
        rotate_left
        · first | (refine Or.inl ⟨by rfl, fun W hS => detR_value (w' := W) ?_ (Below.refl _ _)⟩; obtain ⟨x0, x1, _⟩ := hS.1; go_simp; first | done | with_reducible rfl) | fail
        simp only [Act.put, List.setIfInBounds_toArray, List.set_cons_zero, List.set_cons_succ]
        refine takeC (i := 10) (v := ?_) (Stable.and (Stable.held _ _) (stable_rowN _ _ _)) (fun _ h => h.1) rfl (by kernel_rfl) (by kernel_rfl) (by kernel_rfl) (fun _ _ _ h => h) ?_ ?_
        rotate_left
        · first | (refine Or.inl ⟨by rfl, fun W hS => detR_value (w' := W) ?_ (Below.refl _ _)⟩; obtain ⟨x0, x1, _⟩ := hS.1; go_simp; first | done | with_reducible rfl) | fail
        simp only [Act.put, List.setIfInBounds_toArray, List.set_cons_zero, List.set_cons_succ]
        refine takeC (i := 11) (v := ?_) (Stable.and (Stable.held _ _) (stable_rowN _ _ _)) (fun _ h => h.1) rfl (by kernel_rfl) (by kernel_rfl) (by kernel_rfl) (fun _ _ _ h => h) ?_ ?_
        rotate_left
        · first | (refine Or.inl ⟨by rfl, fun W hS => detR_value (w' := W) ?_ (Below.refl _ _)⟩; obtain ⟨x0, x1, _⟩ := hS.1; go_simp; first | done | with_reducible rfl) | fail
        simp only [Act.put, List.setIfInBounds_toArray, List.set_cons_zero, List.set_cons_succ]
        refine takeC (i := 12) (v := ?_) (Stable.and (Stable.held _ _) (stable_rowN _ _ _)) (fun _ h => h.1) rfl (by kernel_rfl) (by kernel_rfl) (by kernel_rfl) (fun _ _ _ h => h) ?_ ?_
        rotate_left
        · first | (refine Or.inl ⟨by rfl, fun W hS => detR_value (w' := W) ?_ (Below.refl _ _)⟩; obtain ⟨x0, x1, _⟩ := hS.1; go_simp; first | done | with_reducible rfl) | fail
        simp only [Act.put, List.setIfInBounds_toArray, List.set_cons_zero, List.set_cons_succ]
        refine freeC (i := 13) (OneN (-nx) (ny)) (Stable.and (Stable.held _ _) (stable_rowN _ _ _)) (fun _ h => h.1) (fun v => stable_oneN _ _ v) rfl (by kernel_rfl) (by rfl) (fun W hS => freeR_oneN (by go_simp; first | done | with_reducible rfl)) (fun v1H3 => ?_)
        simp only [Act.put, List.setIfInBounds_toArray, List.set_cons_zero, List.set_cons_succ]
        refine appN (i := 14) (px := -nx) (py := ny) (Operand.tmp 17) (Operand.tmp 30) rfl (by kernel_rfl) (by rfl) rfl (by rfl) (by rfl) ⟨HBB.out, HBB.out, trivial⟩ (Nat.le_refl _) HLX.out (fun vaH3 => ?_)
        simp only [Act.put, List.setIfInBounds_toArray, List.set_cons_zero, List.set_cons_succ]
        refine takeC (i := 15) (v := ?_) (Stable.and (Stable.held _ _) (stable_rowN _ _ _)) (fun _ h => h.1) rfl (by kernel_rfl) (by kernel_rfl) (by kernel_rfl) (fun _ _ _ h => h) ?_ ?_
        rotate_left
        · first | (refine Or.inl ⟨by rfl, fun W hS => detR_value (w' := W) ?_ (Below.refl _ _)⟩; obtain ⟨x0, x1, _⟩ := hS.1; go_simp; first | done | with_reducible rfl) | fail
        simp only [Act.put, List.setIfInBounds_toArray, List.set_cons_zero, List.set_cons_succ]
        refine doneC (by kernel_rfl) fun wH3 HG => ?_
        obtain ⟨hH, hR⟩ := HG
        have H3 := Lib.hid hH; clear hH
        have RH3 := Lib.hid hR; clear hR
        try clear x0 x1
        obtain ⟨x0, x1, _⟩ := H3.out.1
        go_wp2_with fail
        exact ⟨⟨m + 1, by omega, by have := HIJ.out; congr 1; push_cast; omega, by rw [HUM.out]; exact RH3.out, H3.out.only (fun _ => trivial) (fun _ => trivial)⟩, by simp [intOf] <;> omega⟩
      · obtain rfl : m = xs.length := by omega
        have hml := HML.out
        have HMI := Lib.hid (show RowN w.heap.size _ M wr from by rw [← HE.out]; exact HO.out)
        have hrl := HMI.out.2
        have hi1 : ¬ (0 : Int) ≤ (xs.length : Int) - 1 - (xs.length : Int) := by omega
        go_wp2_with fail
        refine (HFT.out _ _ HMI.out.1.prs (by omega) (by omega) HOKS.out).mono ?_
        rintro e w4 ⟨g, cg, rfl, ho, hb⟩
        have H4 := Lib.hid (H1.out.step hb)
        have HO4 := Lib.hid (ho.mono hrl)
        clear ho hb
        go_wp2_with fail
        go_ret
        exact ⟨_, rfl, by rw [HRT.out]; exact HO4.out, H4.out.below⟩

end Go.Proofs.Ytfppnaknnijobaa
