/-
  A deposit is added, of the program and of the model.
-/
import Derived.Test.YtfckgidilbjokacCol
import Derived.Test.YtfckgidilbjokacDep
import Derived.Test.YtfckgidilbjokacTrK
namespace Go.Proofs.Ytfckgidilbjokac
open Go.RowKit
set_option linter.unusedVariables false
set_option linter.unusedSimpArgs false

theorem stable_belowT (wA : World) : Stable fun W => Below wA.heap.size wA W := fun _ _ h hb => h.trans (hb.mono h.size)
noncomputable def adB (xs : List Tr) (t : Tr) : Bool := depsB xs && depsB (xs ++ [t])
noncomputable def adT (xs : List Tr) (t : Tr) : List Tr := if adB xs t = true then xs ++ [t] else xs
set_option maxRecDepth 100000 in
set_option maxHeartbeats 2000000 in
theorem implAdd (xs : List Tr) (v : Value) (t : Tr) (w : World) (hv : Trs w v xs) (hlen : xs.length ≤ 1048576) :
    Calls Try.prog 52 #[v, t.val] w (TpsOk 80 (adT xs t) (adB xs t) w) := by
  have HD1 := Lib.hid (fun w h => implDeposits xs v w h)
  have HD2 := Lib.hid (fun u w h => implDeposits (xs ++ [t]) u w h)
  have HC := Lib.hid (fun w h => cloneDeposits xs v w h hlen)
  have HC1 := Lib.hid (fun W (h : Trs W v xs) (hB : w.heap.size + 1 ≤ W.heap.size) => (cloneDeposits xs v W h hlen).mono (R' := fun e w' => ∃ v, e = .returned v ∧ Tps w' (w.heap.size + 1) 80 v xs ∧ Below W.heap.size W w') fun e w' ⟨v, he, ho, hb⟩ => ⟨v, he, ho.mono hB, hb⟩)
  unfold TpsNew at HC
  have HV := Lib.hid hv
  obtain ⟨A, c, rfl⟩ := hv.form2
  clear hv
  obtain ⟨i0, hi, hz0, hz1, hz2⟩ := info_parts infoDeposit
  have HI := Lib.hid (And.intro hi (And.intro hz0 (And.intro hz1 hz2))); clear hi hz0 hz1 hz2
  have HT := Lib.hid (show adT xs t = if adB xs t = true then xs ++ [t] else xs from rfl)
  have HB := Lib.hid (show adB xs t = (depsB xs && depsB (xs ++ [t])) from rfl)
  generalize adT xs t = res at *
  generalize adB xs t = ok at *
  generalize depsB xs = d1 at *
  generalize depsB (xs ++ [t]) = d2 at *
  have H0 := Lib.hid (heldT1 w t 80)
  have hbase : (w.alloc (.cells #[.int .i64 t.x, .int .i64 t.y, .int .i64 t.z] 80)).heap.size = w.heap.size + 1 := by simp
  obtain ⟨wA, hwA⟩ : ∃ wA, wA = w.alloc (.cells #[.int .i64 t.x, .int .i64 t.y, .int .i64 t.z] 80) := ⟨_, rfl⟩
  rw [← hbase] at HC1
  rw [← hwA] at H0 hbase HC1
  have HBS := Lib.hid (show Below wA.heap.size wA wA from Below.refl _ _)
  have HWA := Lib.hid hwA; clear hwA
  obtain ⟨x, y, z⟩ := t
  unfold Tr.val
  try simp only at H0
  obtain ⟨ys, hys⟩ : ∃ ys, ys = xs ++ [(⟨x, y, z⟩ : Tr)] := ⟨_, rfl⟩
  rw [← hys] at HD2 HT
  have HYS := Lib.hid hys; clear hys
  go_enter Try.func52, Try.ntmps52
  go_wp2_with fail
  try simp only at HWA
  rw [← HWA.out]
  refine regionW (fun W => (Held _ W [(w.heap.size, 0, .int .i64 (x)), (w.heap.size, 1, .int .i64 (y)), (w.heap.size, 2, .int .i64 (z))]) ∧ Below wA.heap.size wA W) (by kernel_rfl) ⟨H0.out.drew, (Below.refl _ _).drew⟩ ?_
  refine takeW (i := 0) (v := ?_) (Stable.and (Stable.held _ _) (stable_belowT wA)) rfl (by kernel_rfl) (by kernel_rfl) (by kernel_rfl) (fun _ _ _ h => h) ?_ ?_
  rotate_left
  · first | (refine Or.inl ⟨by rfl, fun W hS => detR_value (w' := W) ?_ (Below.refl _ _)⟩; obtain ⟨hH, q1⟩ := hS; obtain ⟨x0, x1, x2, _⟩ := hH.1; go_simp; first | done | with_reducible rfl) | fail
  simp only [Act.put, List.setIfInBounds_toArray, List.set_cons_zero, List.set_cons_succ]
  refine takeW (i := 2) (v := ?_) (Stable.and (Stable.held _ _) (stable_belowT wA)) rfl (by kernel_rfl) (by kernel_rfl) (by kernel_rfl) (fun _ _ _ h => h) ?_ ?_
  rotate_left
  · first | (refine Or.inl ⟨by rfl, fun W hS => detR_value (w' := W) ?_ (Below.refl _ _)⟩; obtain ⟨hH, q1⟩ := hS; obtain ⟨x0, x1, x2, _⟩ := hH.1; go_simp; first | done | with_reducible rfl) | fail
  simp only [Act.put, List.setIfInBounds_toArray, List.set_cons_zero, List.set_cons_succ]
  refine freeOr (i := 1) (j := 3) (by kernel_rfl) ?_ ?_
  · skip
    refine freeOp (i := 1) (fun v W => Tps W wA.heap.size 80 v xs) (Stable.and (Stable.held _ _) (stable_belowT wA)) (fun v => stable_tpsK wA.heap.size 80 v xs) rfl (by rfl) (fun W hS => ?_) (fun v hex => ?_)
    · obtain ⟨hH, q1⟩ := hS; obtain ⟨x0, x1, x2, _⟩ := hH.1; refine freeR_call (w' := W) (f := ?_) (args := ?_) ?_ ?_; rotate_left 2; (go_simp; (refine ⟨?_, ?_⟩ <;> with_reducible rfl)); exact HC1.out _ (HV.out.step hH.below) q1.size
    obtain ⟨WX, hex⟩ := hex
    obtain ⟨as1, cs1, rfl, -⟩ := hex.form
    try clear hex
    try clear WX
    simp only [Act.put, List.setIfInBounds_toArray, List.set_cons_zero, List.set_cons_succ]
    refine freeX (i := 3) (fun v W => LitT wA.heap.size 80 ⟨x, y, z⟩ v W) (Stable.and (Stable.and (Stable.held _ _) (stable_belowT wA)) (stable_tpsK wA.heap.size 80 (.slice as1 xs.length cs1) xs)) (fun v => stable_lit wA.heap.size 80 ⟨x, y, z⟩ v) rfl (by kernel_rfl) (by rfl) (fun W hS => ?_) (fun v hex => ?_)
    · obtain ⟨⟨hH, q1⟩, r1⟩ := hS; obtain ⟨x0, x1, x2, _⟩ := hH.1; exact freeR_lit (by go_simp <;> with_reducible rfl) q1.size
    obtain ⟨WX, hex⟩ := hex
    obtain ⟨b3, rfl, -⟩ := hex
    try clear hex
    try clear WX
    simp only [Act.put, List.setIfInBounds_toArray, List.set_cons_zero, List.set_cons_succ]
    refine effX (i := 4) (fun v W => Tps W wA.heap.size 80 v ys) (Stable.and (Stable.and (Stable.and (Stable.held _ _) (stable_belowT wA)) (stable_tpsK wA.heap.size 80 (.slice as1 xs.length cs1) xs)) (stable_lit wA.heap.size 80 ⟨x, y, z⟩ (.slice (some ⟨b3, 0, none⟩) 1 1))) (fun v => stable_tpsK wA.heap.size 80 v ys) rfl (by kernel_rfl) (by rfl) (fun W hS => ?_) (fun v hex => ?_)
    · obtain ⟨⟨⟨hH, q1⟩, r1⟩, r3⟩ := hS; obtain ⟨x0, x1, x2, _⟩ := hH.1; exact app_litG r1 r3 hlen Try.underlying72 HI.out.1 HI.out.2.1 HI.out.2.2.1 HI.out.2.2.2 rfl rfl (by rfl) (by rfl) HYS.out (fun wn hu hl hb ↦ ⟨⟨⟨hH.stepB (B := wA.heap.size) ⟨by omega, by omega, by omega, trivial⟩ hb (by omega), q1.trans hb⟩, hu⟩, hl⟩)
    obtain ⟨WX, hex⟩ := hex
    obtain ⟨as4, cs4, rfl, -⟩ := hex.form
    try clear hex
    try clear WX
    simp only [Act.put, List.setIfInBounds_toArray, List.set_cons_zero, List.set_cons_succ]
    refine takeW (i := 5) (v := ?_) (Stable.and (Stable.and (Stable.and (Stable.and (Stable.held _ _) (stable_belowT wA)) (stable_tpsK wA.heap.size 80 (.slice as1 xs.length cs1) xs)) (stable_lit wA.heap.size 80 ⟨x, y, z⟩ (.slice (some ⟨b3, 0, none⟩) 1 1))) (stable_tpsK wA.heap.size 80 (.slice as4 ys.length cs4) ys)) rfl (by kernel_rfl) (by kernel_rfl) (by kernel_rfl) (fun _ _ _ h => h) ?_ ?_
    rotate_left
    · first | (refine Or.inl ⟨by rfl, fun W hS => detR_value (w' := W) ?_ (Below.refl _ _)⟩; obtain ⟨⟨⟨⟨hH, q1⟩, r1⟩, r3⟩, r4⟩ := hS; obtain ⟨x0, x1, x2, _⟩ := hH.1; go_simp; first | done | with_reducible rfl) | fail
    simp only [Act.put, List.setIfInBounds_toArray, List.set_cons_zero, List.set_cons_succ]
    refine doneW (by kernel_rfl) fun wH1 HG => ?_
    obtain ⟨⟨⟨⟨hH, q1⟩, r1⟩, r3⟩, r4⟩ := HG
    have H1 := Lib.hid hH; clear hH
    have MH1_q1 := Lib.hid q1; clear q1
    have MH1_o1 := Lib.hid r1; clear r1
    have MH1_o3 := Lib.hid r3; clear r3
    have MH1_o4 := Lib.hid r4; clear r4
    try clear x0 x1 x2
    have M2 := Lib.hid MH1_o4.out
    clear MH1_o4
    obtain ⟨x0, x1, x2, _⟩ := H1.out.1
    cases d1
    · go_wp2_with fail
      refine (HD1.out _ (HV.out.step H1.out.below)).mono ?_
      rintro e w2 ⟨rfl, hb⟩
      have H2 := Lib.hid (H1.out.step hb); clear hb
      go_wp2_with fail
      refine (HC.out _ (HV.out.step H2.out.below)).mono ?_
      rintro e w4 ⟨vr, rfl, hm, hb⟩
      have H4 := Lib.hid (H2.out.step hb)
      have M4 := Lib.hid (hm.mono (b' := w.heap.size) H2.out.below.size); clear hm hb
      go_wp2_with fail
      go_ret2
      have hok : ok = false := by rw [HB.out]; simp
      refine ⟨_, by rw [hok]; rfl, ?_, H4.out.below⟩
      rw [HT.out, if_neg (by rw [hok]; simp)]
      exact M4.out
    cases d2
    · go_wp2_with fail
      refine (HD1.out _ (HV.out.step H1.out.below)).mono ?_
      rintro e w2 ⟨rfl, hb⟩
      have H1' := Lib.hid (H1.out.step hb)
      have M2' := Lib.hid (M2.out.step hb); clear hb
      go_wp2_with fail
      refine (HD2.out _ _ M2'.out.trs).mono ?_
      rintro e w3 ⟨rfl, hb⟩
      have H2 := Lib.hid (H1'.out.step hb); clear hb
      go_wp2_with fail
      refine (HC.out _ (HV.out.step H2.out.below)).mono ?_
      rintro e w4 ⟨vr, rfl, hm, hb⟩
      have H4 := Lib.hid (H2.out.step hb)
      have M4 := Lib.hid (hm.mono (b' := w.heap.size) H2.out.below.size); clear hm hb
      go_wp2_with fail
      go_ret2
      have hok : ok = false := by rw [HB.out]; simp
      refine ⟨_, by rw [hok]; rfl, ?_, H4.out.below⟩
      rw [HT.out, if_neg (by rw [hok]; simp)]
      exact M4.out
    · go_wp2_with fail
      refine (HD1.out _ (HV.out.step H1.out.below)).mono ?_
      rintro e w2 ⟨rfl, hb⟩
      have H2 := Lib.hid (H1.out.step hb)
      have M2' := Lib.hid (M2.out.step hb); clear hb
      go_wp2_with fail
      refine (HD2.out _ _ M2'.out.trs).mono ?_
      rintro e w3 ⟨rfl, hb⟩
      have H3 := Lib.hid (H2.out.step hb)
      have M3 := Lib.hid (M2'.out.step hb); clear hb
      go_wp2_with fail
      go_ret2
      have hok : ok = true := by rw [HB.out]; rfl
      refine ⟨_, by rw [hok]; rfl, ?_, H3.out.below⟩
      rw [HT.out, if_pos hok]
      exact M3.out.mono (by omega)
  · skip
    refine freeOp (i := 3) (fun v W => LitT wA.heap.size 80 ⟨x, y, z⟩ v W) (Stable.and (Stable.held _ _) (stable_belowT wA)) (fun v => stable_lit wA.heap.size 80 ⟨x, y, z⟩ v) rfl (by rfl) (fun W hS => ?_) (fun v hex => ?_)
    · obtain ⟨hH, q1⟩ := hS; obtain ⟨x0, x1, x2, _⟩ := hH.1; exact freeR_lit (by go_simp <;> with_reducible rfl) q1.size
    obtain ⟨WX, hex⟩ := hex
    obtain ⟨b3, rfl, -⟩ := hex
    try clear hex
    try clear WX
    simp only [Act.put, List.setIfInBounds_toArray, List.set_cons_zero, List.set_cons_succ]
    refine freeX (i := 1) (fun v W => Tps W wA.heap.size 80 v xs) (Stable.and (Stable.and (Stable.held _ _) (stable_belowT wA)) (stable_lit wA.heap.size 80 ⟨x, y, z⟩ (.slice (some ⟨b3, 0, none⟩) 1 1))) (fun v => stable_tpsK wA.heap.size 80 v xs) rfl (by kernel_rfl) (by rfl) (fun W hS => ?_) (fun v hex => ?_)
    · obtain ⟨⟨hH, q1⟩, r3⟩ := hS; obtain ⟨x0, x1, x2, _⟩ := hH.1; refine freeR_call (w' := W) (f := ?_) (args := ?_) ?_ ?_; rotate_left 2; (go_simp; (refine ⟨?_, ?_⟩ <;> with_reducible rfl)); exact HC1.out _ (HV.out.step hH.below) q1.size
    obtain ⟨WX, hex⟩ := hex
    obtain ⟨as1, cs1, rfl, -⟩ := hex.form
    try clear hex
    try clear WX
    simp only [Act.put, List.setIfInBounds_toArray, List.set_cons_zero, List.set_cons_succ]
    refine effX (i := 4) (fun v W => Tps W wA.heap.size 80 v ys) (Stable.and (Stable.and (Stable.and (Stable.held _ _) (stable_belowT wA)) (stable_lit wA.heap.size 80 ⟨x, y, z⟩ (.slice (some ⟨b3, 0, none⟩) 1 1))) (stable_tpsK wA.heap.size 80 (.slice as1 xs.length cs1) xs)) (fun v => stable_tpsK wA.heap.size 80 v ys) rfl (by kernel_rfl) (by rfl) (fun W hS => ?_) (fun v hex => ?_)
    · obtain ⟨⟨⟨hH, q1⟩, r3⟩, r1⟩ := hS; obtain ⟨x0, x1, x2, _⟩ := hH.1; exact app_litG r1 r3 hlen Try.underlying72 HI.out.1 HI.out.2.1 HI.out.2.2.1 HI.out.2.2.2 rfl rfl (by rfl) (by rfl) HYS.out (fun wn hu hl hb ↦ ⟨⟨⟨hH.stepB (B := wA.heap.size) ⟨by omega, by omega, by omega, trivial⟩ hb (by omega), q1.trans hb⟩, hl⟩, hu⟩)
    obtain ⟨WX, hex⟩ := hex
    obtain ⟨as4, cs4, rfl, -⟩ := hex.form
    try clear hex
    try clear WX
    simp only [Act.put, List.setIfInBounds_toArray, List.set_cons_zero, List.set_cons_succ]
    refine takeW (i := 5) (v := ?_) (Stable.and (Stable.and (Stable.and (Stable.and (Stable.held _ _) (stable_belowT wA)) (stable_lit wA.heap.size 80 ⟨x, y, z⟩ (.slice (some ⟨b3, 0, none⟩) 1 1))) (stable_tpsK wA.heap.size 80 (.slice as1 xs.length cs1) xs)) (stable_tpsK wA.heap.size 80 (.slice as4 ys.length cs4) ys)) rfl (by kernel_rfl) (by kernel_rfl) (by kernel_rfl) (fun _ _ _ h => h) ?_ ?_
    rotate_left
    · first | (refine Or.inl ⟨by rfl, fun W hS => detR_value (w' := W) ?_ (Below.refl _ _)⟩; obtain ⟨⟨⟨⟨hH, q1⟩, r3⟩, r1⟩, r4⟩ := hS; obtain ⟨x0, x1, x2, _⟩ := hH.1; go_simp; first | done | with_reducible rfl) | fail
    simp only [Act.put, List.setIfInBounds_toArray, List.set_cons_zero, List.set_cons_succ]
    refine doneW (by kernel_rfl) fun wH1 HG => ?_
    obtain ⟨⟨⟨⟨hH, q1⟩, r3⟩, r1⟩, r4⟩ := HG
    have H1 := Lib.hid hH; clear hH
    have MH1_q1 := Lib.hid q1; clear q1
    have MH1_o3 := Lib.hid r3; clear r3
    have MH1_o1 := Lib.hid r1; clear r1
    have MH1_o4 := Lib.hid r4; clear r4
    try clear x0 x1 x2
    have M2 := Lib.hid MH1_o4.out
    clear MH1_o4
    obtain ⟨x0, x1, x2, _⟩ := H1.out.1
    cases d1
    · go_wp2_with fail
      refine (HD1.out _ (HV.out.step H1.out.below)).mono ?_
      rintro e w2 ⟨rfl, hb⟩
      have H2 := Lib.hid (H1.out.step hb); clear hb
      go_wp2_with fail
      refine (HC.out _ (HV.out.step H2.out.below)).mono ?_
      rintro e w4 ⟨vr, rfl, hm, hb⟩
      have H4 := Lib.hid (H2.out.step hb)
      have M4 := Lib.hid (hm.mono (b' := w.heap.size) H2.out.below.size); clear hm hb
      go_wp2_with fail
      go_ret2
      have hok : ok = false := by rw [HB.out]; simp
      refine ⟨_, by rw [hok]; rfl, ?_, H4.out.below⟩
      rw [HT.out, if_neg (by rw [hok]; simp)]
      exact M4.out
    cases d2
    · go_wp2_with fail
      refine (HD1.out _ (HV.out.step H1.out.below)).mono ?_
      rintro e w2 ⟨rfl, hb⟩
      have H1' := Lib.hid (H1.out.step hb)
      have M2' := Lib.hid (M2.out.step hb); clear hb
      go_wp2_with fail
      refine (HD2.out _ _ M2'.out.trs).mono ?_
      rintro e w3 ⟨rfl, hb⟩
      have H2 := Lib.hid (H1'.out.step hb); clear hb
      go_wp2_with fail
      refine (HC.out _ (HV.out.step H2.out.below)).mono ?_
      rintro e w4 ⟨vr, rfl, hm, hb⟩
      have H4 := Lib.hid (H2.out.step hb)
      have M4 := Lib.hid (hm.mono (b' := w.heap.size) H2.out.below.size); clear hm hb
      go_wp2_with fail
      go_ret2
      have hok : ok = false := by rw [HB.out]; simp
      refine ⟨_, by rw [hok]; rfl, ?_, H4.out.below⟩
      rw [HT.out, if_neg (by rw [hok]; simp)]
      exact M4.out
    · go_wp2_with fail
      refine (HD1.out _ (HV.out.step H1.out.below)).mono ?_
      rintro e w2 ⟨rfl, hb⟩
      have H2 := Lib.hid (H1.out.step hb)
      have M2' := Lib.hid (M2.out.step hb); clear hb
      go_wp2_with fail
      refine (HD2.out _ _ M2'.out.trs).mono ?_
      rintro e w3 ⟨rfl, hb⟩
      have H3 := Lib.hid (H2.out.step hb)
      have M3 := Lib.hid (M2'.out.step hb); clear hb
      go_wp2_with fail
      go_ret2
      have hok : ok = true := by rw [HB.out]; rfl
      refine ⟨_, by rw [hok]; rfl, ?_, H3.out.below⟩
      rw [HT.out, if_pos hok]
      exact M3.out.mono (by omega)
set_option maxRecDepth 100000 in
set_option maxHeartbeats 2000000 in
theorem specAdd (xs : List Tr) (v : Value) (t : Tr) (w : World) (hv : Trs w v xs) (hlen : xs.length ≤ 1048576) :
    Calls Try.prog 50 #[v, t.val] w (TpsOk 80 (adT xs t) (adB xs t) w) := by
  have HD1 := Lib.hid (fun w h => specDeposits xs v w h)
  have HD2 := Lib.hid (fun u w h => specDeposits (xs ++ [t]) u w h)
  have HV := Lib.hid hv
  obtain ⟨A, c, rfl⟩ := hv.form2
  clear hv
  obtain ⟨i0, hi, hz0, hz1, hz2⟩ := info_parts infoDeposit
  have HI := Lib.hid (And.intro hi (And.intro hz0 (And.intro hz1 hz2))); clear hi hz0 hz1 hz2
  have HT := Lib.hid (show adT xs t = if adB xs t = true then xs ++ [t] else xs from rfl)
  have HB := Lib.hid (show adB xs t = (depsB xs && depsB (xs ++ [t])) from rfl)
  generalize adT xs t = res at *
  generalize adB xs t = ok at *
  generalize depsB xs = d1 at *
  generalize depsB (xs ++ [t]) = d2 at *
  have H0 := Lib.hid (heldT1 w t 80)
  have hbase : (w.alloc (.cells #[.int .i64 t.x, .int .i64 t.y, .int .i64 t.z] 80)).heap.size = w.heap.size + 1 := by simp
  obtain ⟨wA, hwA⟩ : ∃ wA, wA = w.alloc (.cells #[.int .i64 t.x, .int .i64 t.y, .int .i64 t.z] 80) := ⟨_, rfl⟩
  have HA := Lib.hid (fun w2 v2 (h : Trs w2 v2 xs) (g : Nat) (hg : w2.heap[g]? = some (.cells #[] 80 (0, 0))) (hB : w.heap.size ≤ g) => run_append_emptyT (P := Try.prog) (ty := 72) Try.underlying72 HI.out.1 HI.out.2.1 HI.out.2.2.1 HI.out.2.2.2 rfl hg hB h hlen)
  rw [← hwA] at H0 hbase
  have HBS := Lib.hid (show Below wA.heap.size wA wA from Below.refl _ _)
  have HWA := Lib.hid hwA; clear hwA
  obtain ⟨x, y, z⟩ := t
  unfold Tr.val
  try simp only at H0
  obtain ⟨ys, hys⟩ : ∃ ys, ys = xs ++ [(⟨x, y, z⟩ : Tr)] := ⟨_, rfl⟩
  rw [← hys] at HD2 HT
  have HYS := Lib.hid hys; clear hys
  go_enter Try.func50, Try.ntmps50
  go_wp2_with fail
  try simp only at HWA
  rw [← HWA.out]
  refine regionW (fun W => (Held _ W [(w.heap.size, 0, .int .i64 (x)), (w.heap.size, 1, .int .i64 (y)), (w.heap.size, 2, .int .i64 (z))]) ∧ Below wA.heap.size wA W) (by kernel_rfl) ⟨H0.out.drew, (Below.refl _ _).drew⟩ ?_
  refine takeW (i := 1) (v := ?_) (Stable.and (Stable.held _ _) (stable_belowT wA)) rfl (by kernel_rfl) (by kernel_rfl) (by kernel_rfl) (fun _ _ _ h => h) ?_ ?_
  rotate_left
  · first | (refine Or.inl ⟨by rfl, fun W hS => detR_value (w' := W) ?_ (Below.refl _ _)⟩; obtain ⟨hH, q1⟩ := hS; obtain ⟨x0, x1, x2, _⟩ := hH.1; go_simp; first | done | with_reducible rfl) | fail
  simp only [Act.put, List.setIfInBounds_toArray, List.set_cons_zero, List.set_cons_succ]
  refine takeW (i := 3) (v := ?_) (Stable.and (Stable.held _ _) (stable_belowT wA)) rfl (by kernel_rfl) (by kernel_rfl) (by kernel_rfl) (fun _ _ _ h => h) ?_ ?_
  rotate_left
  · first | (refine Or.inl ⟨by rfl, fun W hS => detR_value (w' := W) ?_ (Below.refl _ _)⟩; obtain ⟨hH, q1⟩ := hS; obtain ⟨x0, x1, x2, _⟩ := hH.1; go_simp; first | done | with_reducible rfl) | fail
  simp only [Act.put, List.setIfInBounds_toArray, List.set_cons_zero, List.set_cons_succ]
  refine freeOr (i := 0) (j := 4) (by kernel_rfl) ?_ ?_
  · skip
    refine freeOp (i := 0) (fun v W => NewE wA.heap.size 80 v W) (Stable.and (Stable.held _ _) (stable_belowT wA)) (fun v => stable_newE wA.heap.size 80 v) rfl (by rfl) (fun W hS => ?_) (fun v hex => ?_)
    · obtain ⟨hH, q1⟩ := hS; obtain ⟨x0, x1, x2, _⟩ := hH.1; exact freeR_newE (by go_simp <;> with_reducible rfl) q1.size
    obtain ⟨WX, hex⟩ := hex
    obtain ⟨b0, rfl, -, -⟩ := hex
    try clear hex
    try clear WX
    simp only [Act.put, List.setIfInBounds_toArray, List.set_cons_zero, List.set_cons_succ]
    refine freeOr (i := 2) (j := 4) (by kernel_rfl) ?_ ?_
    · skip
      refine freeOp (i := 2) (fun v W => Tps W wA.heap.size 80 v xs) (Stable.and (Stable.and (Stable.held _ _) (stable_belowT wA)) (stable_newE wA.heap.size 80 (.slice (some ⟨b0, 0, none⟩) 0 0))) (fun v => stable_tpsK wA.heap.size 80 v xs) rfl (by rfl) (fun W hS => ?_) (fun v hex => ?_)
      · obtain ⟨⟨hH, q1⟩, r0⟩ := hS; obtain ⟨x0, x1, x2, _⟩ := hH.1; exact freeR_appendT r0 (HV.out.step hH.below) hlen Try.underlying72 HI.out.1 HI.out.2.1 HI.out.2.2.1 HI.out.2.2.2 rfl (by rfl) (by rfl) (by rfl)
      obtain ⟨WX, hex⟩ := hex
      obtain ⟨as2, cs2, rfl, -⟩ := hex.form
      try clear hex
      try clear WX
      simp only [Act.put, List.setIfInBounds_toArray, List.set_cons_zero, List.set_cons_succ]
      refine freeX (i := 4) (fun v W => LitT wA.heap.size 80 ⟨x, y, z⟩ v W) (Stable.and (Stable.and (Stable.and (Stable.held _ _) (stable_belowT wA)) (stable_newE wA.heap.size 80 (.slice (some ⟨b0, 0, none⟩) 0 0))) (stable_tpsK wA.heap.size 80 (.slice as2 xs.length cs2) xs)) (fun v => stable_lit wA.heap.size 80 ⟨x, y, z⟩ v) rfl (by kernel_rfl) (by rfl) (fun W hS => ?_) (fun v hex => ?_)
      · obtain ⟨⟨⟨hH, q1⟩, r0⟩, r2⟩ := hS; obtain ⟨x0, x1, x2, _⟩ := hH.1; exact freeR_lit (by go_simp <;> with_reducible rfl) q1.size
      obtain ⟨WX, hex⟩ := hex
      obtain ⟨b4, rfl, -⟩ := hex
      try clear hex
      try clear WX
      simp only [Act.put, List.setIfInBounds_toArray, List.set_cons_zero, List.set_cons_succ]
      refine effX (i := 5) (fun v W => Tps W wA.heap.size 80 v ys) (Stable.and (Stable.and (Stable.and (Stable.and (Stable.held _ _) (stable_belowT wA)) (stable_newE wA.heap.size 80 (.slice (some ⟨b0, 0, none⟩) 0 0))) (stable_tpsK wA.heap.size 80 (.slice as2 xs.length cs2) xs)) (stable_lit wA.heap.size 80 ⟨x, y, z⟩ (.slice (some ⟨b4, 0, none⟩) 1 1))) (fun v => stable_tpsK wA.heap.size 80 v ys) rfl (by kernel_rfl) (by rfl) (fun W hS => ?_) (fun v hex => ?_)
      · obtain ⟨⟨⟨⟨hH, q1⟩, r0⟩, r2⟩, r4⟩ := hS; obtain ⟨x0, x1, x2, _⟩ := hH.1; exact app_litN r2 r4 r0 hlen Try.underlying72 HI.out.1 HI.out.2.1 HI.out.2.2.1 HI.out.2.2.2 rfl rfl (by rfl) (by rfl) HYS.out (fun wn hu hl hn0 hb ↦ ⟨⟨⟨⟨hH.stepB (B := wA.heap.size) ⟨by omega, by omega, by omega, trivial⟩ hb (by omega), q1.trans hb⟩, hn0⟩, hu⟩, hl⟩)
      obtain ⟨WX, hex⟩ := hex
      obtain ⟨as5, cs5, rfl, -⟩ := hex.form
      try clear hex
      try clear WX
      simp only [Act.put, List.setIfInBounds_toArray, List.set_cons_zero, List.set_cons_succ]
      refine takeW (i := 6) (v := ?_) (Stable.and (Stable.and (Stable.and (Stable.and (Stable.and (Stable.held _ _) (stable_belowT wA)) (stable_newE wA.heap.size 80 (.slice (some ⟨b0, 0, none⟩) 0 0))) (stable_tpsK wA.heap.size 80 (.slice as2 xs.length cs2) xs)) (stable_lit wA.heap.size 80 ⟨x, y, z⟩ (.slice (some ⟨b4, 0, none⟩) 1 1))) (stable_tpsK wA.heap.size 80 (.slice as5 ys.length cs5) ys)) rfl (by kernel_rfl) (by kernel_rfl) (by kernel_rfl) (fun _ _ _ h => h) ?_ ?_
      rotate_left
      · first | (refine Or.inl ⟨by rfl, fun W hS => detR_value (w' := W) ?_ (Below.refl _ _)⟩; obtain ⟨⟨⟨⟨⟨hH, q1⟩, r0⟩, r2⟩, r4⟩, r5⟩ := hS; obtain ⟨x0, x1, x2, _⟩ := hH.1; go_simp; first | done | with_reducible rfl) | fail
      simp only [Act.put, List.setIfInBounds_toArray, List.set_cons_zero, List.set_cons_succ]
      refine doneW (by kernel_rfl) fun wH1 HG => ?_
      obtain ⟨⟨⟨⟨⟨hH, q1⟩, r0⟩, r2⟩, r4⟩, r5⟩ := HG
      have H1 := Lib.hid hH; clear hH
      have MH1_q1 := Lib.hid q1; clear q1
      have MH1_o0 := Lib.hid r0; clear r0
      have MH1_o2 := Lib.hid r2; clear r2
      have MH1_o4 := Lib.hid r4; clear r4
      have MH1_o5 := Lib.hid r5; clear r5
      try clear x0 x1 x2
      have M2 := Lib.hid MH1_o5.out
      clear MH1_o5
      obtain ⟨x0, x1, x2, _⟩ := H1.out.1
      cases d1
      · go_wp2_with fail
        refine (HD1.out _ (HV.out.step H1.out.below)).mono ?_
        rintro e w2 ⟨rfl, hb⟩
        have H2 := Lib.hid (H1.out.step hb); clear hb
        obtain ⟨v', w', hr, ho, hb⟩ := HA.out (w2.alloc (.cells #[] 80)) _ (HV.out.step (H2.out.alloc _).below) w2.heap.size (heap_alloc_new w2 _) H2.out.below.size
        have H4 := Lib.hid ((H2.out.alloc (.cells #[] 80)).step hb)
        have M4 := Lib.hid ho; clear ho hb
        go_wp2_with (at_builtin; refine wpList_append_run rfl _ _ 72 rfl v' w' hr ?_)
        clear hr
        go_wp2_with fail
        go_ret2
        have hok : ok = false := by rw [HB.out]; simp
        refine ⟨_, by rw [hok]; rfl, ?_, H4.out.below⟩
        rw [HT.out, if_neg (by rw [hok]; simp)]
        exact M4.out
      cases d2
      · go_wp2_with fail
        refine (HD1.out _ (HV.out.step H1.out.below)).mono ?_
        rintro e w2 ⟨rfl, hb⟩
        have H1' := Lib.hid (H1.out.step hb)
        have M2' := Lib.hid (M2.out.step hb); clear hb
        go_wp2_with fail
        refine (HD2.out _ _ M2'.out.trs).mono ?_
        rintro e w3 ⟨rfl, hb⟩
        have H2 := Lib.hid (H1'.out.step hb); clear hb
        obtain ⟨v', w', hr, ho, hb⟩ := HA.out (w3.alloc (.cells #[] 80)) _ (HV.out.step (H2.out.alloc _).below) w3.heap.size (heap_alloc_new w3 _) H2.out.below.size
        have H4 := Lib.hid ((H2.out.alloc (.cells #[] 80)).step hb)
        have M4 := Lib.hid ho; clear ho hb
        go_wp2_with (at_builtin; refine wpList_append_run rfl _ _ 72 rfl v' w' hr ?_)
        clear hr
        go_wp2_with fail
        go_ret2
        have hok : ok = false := by rw [HB.out]; simp
        refine ⟨_, by rw [hok]; rfl, ?_, H4.out.below⟩
        rw [HT.out, if_neg (by rw [hok]; simp)]
        exact M4.out
      · go_wp2_with fail
        refine (HD1.out _ (HV.out.step H1.out.below)).mono ?_
        rintro e w2 ⟨rfl, hb⟩
        have H2 := Lib.hid (H1.out.step hb)
        have M2' := Lib.hid (M2.out.step hb); clear hb
        go_wp2_with fail
        refine (HD2.out _ _ M2'.out.trs).mono ?_
        rintro e w3 ⟨rfl, hb⟩
        have H3 := Lib.hid (H2.out.step hb)
        have M3 := Lib.hid (M2'.out.step hb); clear hb
        go_wp2_with fail
        go_ret2
        have hok : ok = true := by rw [HB.out]; rfl
        refine ⟨_, by rw [hok]; rfl, ?_, H3.out.below⟩
        rw [HT.out, if_pos hok]
        exact M3.out.mono (by omega)
    · skip
      refine freeOp (i := 4) (fun v W => LitT wA.heap.size 80 ⟨x, y, z⟩ v W) (Stable.and (Stable.and (Stable.held _ _) (stable_belowT wA)) (stable_newE wA.heap.size 80 (.slice (some ⟨b0, 0, none⟩) 0 0))) (fun v => stable_lit wA.heap.size 80 ⟨x, y, z⟩ v) rfl (by rfl) (fun W hS => ?_) (fun v hex => ?_)
      · obtain ⟨⟨hH, q1⟩, r0⟩ := hS; obtain ⟨x0, x1, x2, _⟩ := hH.1; exact freeR_lit (by go_simp <;> with_reducible rfl) q1.size
      obtain ⟨WX, hex⟩ := hex
      obtain ⟨b4, rfl, -⟩ := hex
      try clear hex
      try clear WX
      simp only [Act.put, List.setIfInBounds_toArray, List.set_cons_zero, List.set_cons_succ]
      refine freeX (i := 2) (fun v W => Tps W wA.heap.size 80 v xs) (Stable.and (Stable.and (Stable.and (Stable.held _ _) (stable_belowT wA)) (stable_newE wA.heap.size 80 (.slice (some ⟨b0, 0, none⟩) 0 0))) (stable_lit wA.heap.size 80 ⟨x, y, z⟩ (.slice (some ⟨b4, 0, none⟩) 1 1))) (fun v => stable_tpsK wA.heap.size 80 v xs) rfl (by kernel_rfl) (by rfl) (fun W hS => ?_) (fun v hex => ?_)
      · obtain ⟨⟨⟨hH, q1⟩, r0⟩, r4⟩ := hS; obtain ⟨x0, x1, x2, _⟩ := hH.1; exact freeR_appendT r0 (HV.out.step hH.below) hlen Try.underlying72 HI.out.1 HI.out.2.1 HI.out.2.2.1 HI.out.2.2.2 rfl (by rfl) (by rfl) (by rfl)
      obtain ⟨WX, hex⟩ := hex
      obtain ⟨as2, cs2, rfl, -⟩ := hex.form
      try clear hex
      try clear WX
      simp only [Act.put, List.setIfInBounds_toArray, List.set_cons_zero, List.set_cons_succ]
      refine effX (i := 5) (fun v W => Tps W wA.heap.size 80 v ys) (Stable.and (Stable.and (Stable.and (Stable.and (Stable.held _ _) (stable_belowT wA)) (stable_newE wA.heap.size 80 (.slice (some ⟨b0, 0, none⟩) 0 0))) (stable_lit wA.heap.size 80 ⟨x, y, z⟩ (.slice (some ⟨b4, 0, none⟩) 1 1))) (stable_tpsK wA.heap.size 80 (.slice as2 xs.length cs2) xs)) (fun v => stable_tpsK wA.heap.size 80 v ys) rfl (by kernel_rfl) (by rfl) (fun W hS => ?_) (fun v hex => ?_)
      · obtain ⟨⟨⟨⟨hH, q1⟩, r0⟩, r4⟩, r2⟩ := hS; obtain ⟨x0, x1, x2, _⟩ := hH.1; exact app_litN r2 r4 r0 hlen Try.underlying72 HI.out.1 HI.out.2.1 HI.out.2.2.1 HI.out.2.2.2 rfl rfl (by rfl) (by rfl) HYS.out (fun wn hu hl hn0 hb ↦ ⟨⟨⟨⟨hH.stepB (B := wA.heap.size) ⟨by omega, by omega, by omega, trivial⟩ hb (by omega), q1.trans hb⟩, hn0⟩, hl⟩, hu⟩)
      obtain ⟨WX, hex⟩ := hex
      obtain ⟨as5, cs5, rfl, -⟩ := hex.form
      try clear hex
      try clear WX
      simp only [Act.put, List.setIfInBounds_toArray, List.set_cons_zero, List.set_cons_succ]
      refine takeW (i := 6) (v := ?_) (Stable.and (Stable.and (Stable.and (Stable.and (Stable.and (Stable.held _ _) (stable_belowT wA)) (stable_newE wA.heap.size 80 (.slice (some ⟨b0, 0, none⟩) 0 0))) (stable_lit wA.heap.size 80 ⟨x, y, z⟩ (.slice (some ⟨b4, 0, none⟩) 1 1))) (stable_tpsK wA.heap.size 80 (.slice as2 xs.length cs2) xs)) (stable_tpsK wA.heap.size 80 (.slice as5 ys.length cs5) ys)) rfl (by kernel_rfl) (by kernel_rfl) (by kernel_rfl) (fun _ _ _ h => h) ?_ ?_
      rotate_left
      · first | (refine Or.inl ⟨by rfl, fun W hS => detR_value (w' := W) ?_ (Below.refl _ _)⟩; obtain ⟨⟨⟨⟨⟨hH, q1⟩, r0⟩, r4⟩, r2⟩, r5⟩ := hS; obtain ⟨x0, x1, x2, _⟩ := hH.1; go_simp; first | done | with_reducible rfl) | fail
      simp only [Act.put, List.setIfInBounds_toArray, List.set_cons_zero, List.set_cons_succ]
      refine doneW (by kernel_rfl) fun wH1 HG => ?_
      obtain ⟨⟨⟨⟨⟨hH, q1⟩, r0⟩, r4⟩, r2⟩, r5⟩ := HG
      have H1 := Lib.hid hH; clear hH
      have MH1_q1 := Lib.hid q1; clear q1
      have MH1_o0 := Lib.hid r0; clear r0
      have MH1_o4 := Lib.hid r4; clear r4
      have MH1_o2 := Lib.hid r2; clear r2
      have MH1_o5 := Lib.hid r5; clear r5
      try clear x0 x1 x2
      have M2 := Lib.hid MH1_o5.out
      clear MH1_o5
      obtain ⟨x0, x1, x2, _⟩ := H1.out.1
      cases d1
      · go_wp2_with fail
        refine (HD1.out _ (HV.out.step H1.out.below)).mono ?_
        rintro e w2 ⟨rfl, hb⟩
        have H2 := Lib.hid (H1.out.step hb); clear hb
        obtain ⟨v', w', hr, ho, hb⟩ := HA.out (w2.alloc (.cells #[] 80)) _ (HV.out.step (H2.out.alloc _).below) w2.heap.size (heap_alloc_new w2 _) H2.out.below.size
        have H4 := Lib.hid ((H2.out.alloc (.cells #[] 80)).step hb)
        have M4 := Lib.hid ho; clear ho hb
        go_wp2_with (at_builtin; refine wpList_append_run rfl _ _ 72 rfl v' w' hr ?_)
        clear hr
        go_wp2_with fail
        go_ret2
        have hok : ok = false := by rw [HB.out]; simp
        refine ⟨_, by rw [hok]; rfl, ?_, H4.out.below⟩
        rw [HT.out, if_neg (by rw [hok]; simp)]
        exact M4.out
      cases d2
      · go_wp2_with fail
        refine (HD1.out _ (HV.out.step H1.out.below)).mono ?_
        rintro e w2 ⟨rfl, hb⟩
        have H1' := Lib.hid (H1.out.step hb)
        have M2' := Lib.hid (M2.out.step hb); clear hb
        go_wp2_with fail
        refine (HD2.out _ _ M2'.out.trs).mono ?_
        rintro e w3 ⟨rfl, hb⟩
        have H2 := Lib.hid (H1'.out.step hb); clear hb
        obtain ⟨v', w', hr, ho, hb⟩ := HA.out (w3.alloc (.cells #[] 80)) _ (HV.out.step (H2.out.alloc _).below) w3.heap.size (heap_alloc_new w3 _) H2.out.below.size
        have H4 := Lib.hid ((H2.out.alloc (.cells #[] 80)).step hb)
        have M4 := Lib.hid ho; clear ho hb
        go_wp2_with (at_builtin; refine wpList_append_run rfl _ _ 72 rfl v' w' hr ?_)
        clear hr
        go_wp2_with fail
        go_ret2
        have hok : ok = false := by rw [HB.out]; simp
        refine ⟨_, by rw [hok]; rfl, ?_, H4.out.below⟩
        rw [HT.out, if_neg (by rw [hok]; simp)]
        exact M4.out
      · go_wp2_with fail
        refine (HD1.out _ (HV.out.step H1.out.below)).mono ?_
        rintro e w2 ⟨rfl, hb⟩
        have H2 := Lib.hid (H1.out.step hb)
        have M2' := Lib.hid (M2.out.step hb); clear hb
        go_wp2_with fail
        refine (HD2.out _ _ M2'.out.trs).mono ?_
        rintro e w3 ⟨rfl, hb⟩
        have H3 := Lib.hid (H2.out.step hb)
        have M3 := Lib.hid (M2'.out.step hb); clear hb
        go_wp2_with fail
        go_ret2
        have hok : ok = true := by rw [HB.out]; rfl
        refine ⟨_, by rw [hok]; rfl, ?_, H3.out.below⟩
        rw [HT.out, if_pos hok]
        exact M3.out.mono (by omega)
  · skip
    refine freeOp (i := 4) (fun v W => LitT wA.heap.size 80 ⟨x, y, z⟩ v W) (Stable.and (Stable.held _ _) (stable_belowT wA)) (fun v => stable_lit wA.heap.size 80 ⟨x, y, z⟩ v) rfl (by rfl) (fun W hS => ?_) (fun v hex => ?_)
    · obtain ⟨hH, q1⟩ := hS; obtain ⟨x0, x1, x2, _⟩ := hH.1; exact freeR_lit (by go_simp <;> with_reducible rfl) q1.size
    obtain ⟨WX, hex⟩ := hex
    obtain ⟨b4, rfl, -⟩ := hex
    try clear hex
    try clear WX
    simp only [Act.put, List.setIfInBounds_toArray, List.set_cons_zero, List.set_cons_succ]
    refine freeX (i := 0) (fun v W => NewE wA.heap.size 80 v W) (Stable.and (Stable.and (Stable.held _ _) (stable_belowT wA)) (stable_lit wA.heap.size 80 ⟨x, y, z⟩ (.slice (some ⟨b4, 0, none⟩) 1 1))) (fun v => stable_newE wA.heap.size 80 v) rfl (by kernel_rfl) (by rfl) (fun W hS => ?_) (fun v hex => ?_)
    · obtain ⟨⟨hH, q1⟩, r4⟩ := hS; obtain ⟨x0, x1, x2, _⟩ := hH.1; exact freeR_newE (by go_simp <;> with_reducible rfl) q1.size
    obtain ⟨WX, hex⟩ := hex
    obtain ⟨b0, rfl, -, -⟩ := hex
    try clear hex
    try clear WX
    simp only [Act.put, List.setIfInBounds_toArray, List.set_cons_zero, List.set_cons_succ]
    refine freeX (i := 2) (fun v W => Tps W wA.heap.size 80 v xs) (Stable.and (Stable.and (Stable.and (Stable.held _ _) (stable_belowT wA)) (stable_lit wA.heap.size 80 ⟨x, y, z⟩ (.slice (some ⟨b4, 0, none⟩) 1 1))) (stable_newE wA.heap.size 80 (.slice (some ⟨b0, 0, none⟩) 0 0))) (fun v => stable_tpsK wA.heap.size 80 v xs) rfl (by kernel_rfl) (by rfl) (fun W hS => ?_) (fun v hex => ?_)
    · obtain ⟨⟨⟨hH, q1⟩, r4⟩, r0⟩ := hS; obtain ⟨x0, x1, x2, _⟩ := hH.1; exact freeR_appendT r0 (HV.out.step hH.below) hlen Try.underlying72 HI.out.1 HI.out.2.1 HI.out.2.2.1 HI.out.2.2.2 rfl (by rfl) (by rfl) (by rfl)
    obtain ⟨WX, hex⟩ := hex
    obtain ⟨as2, cs2, rfl, -⟩ := hex.form
    try clear hex
    try clear WX
    simp only [Act.put, List.setIfInBounds_toArray, List.set_cons_zero, List.set_cons_succ]
    refine effX (i := 5) (fun v W => Tps W wA.heap.size 80 v ys) (Stable.and (Stable.and (Stable.and (Stable.and (Stable.held _ _) (stable_belowT wA)) (stable_lit wA.heap.size 80 ⟨x, y, z⟩ (.slice (some ⟨b4, 0, none⟩) 1 1))) (stable_newE wA.heap.size 80 (.slice (some ⟨b0, 0, none⟩) 0 0))) (stable_tpsK wA.heap.size 80 (.slice as2 xs.length cs2) xs)) (fun v => stable_tpsK wA.heap.size 80 v ys) rfl (by kernel_rfl) (by rfl) (fun W hS => ?_) (fun v hex => ?_)
    · obtain ⟨⟨⟨⟨hH, q1⟩, r4⟩, r0⟩, r2⟩ := hS; obtain ⟨x0, x1, x2, _⟩ := hH.1; exact app_litN r2 r4 r0 hlen Try.underlying72 HI.out.1 HI.out.2.1 HI.out.2.2.1 HI.out.2.2.2 rfl rfl (by rfl) (by rfl) HYS.out (fun wn hu hl hn0 hb ↦ ⟨⟨⟨⟨hH.stepB (B := wA.heap.size) ⟨by omega, by omega, by omega, trivial⟩ hb (by omega), q1.trans hb⟩, hl⟩, hn0⟩, hu⟩)
    obtain ⟨WX, hex⟩ := hex
    obtain ⟨as5, cs5, rfl, -⟩ := hex.form
    try clear hex
    try clear WX
    simp only [Act.put, List.setIfInBounds_toArray, List.set_cons_zero, List.set_cons_succ]
    refine takeW (i := 6) (v := ?_) (Stable.and (Stable.and (Stable.and (Stable.and (Stable.and (Stable.held _ _) (stable_belowT wA)) (stable_lit wA.heap.size 80 ⟨x, y, z⟩ (.slice (some ⟨b4, 0, none⟩) 1 1))) (stable_newE wA.heap.size 80 (.slice (some ⟨b0, 0, none⟩) 0 0))) (stable_tpsK wA.heap.size 80 (.slice as2 xs.length cs2) xs)) (stable_tpsK wA.heap.size 80 (.slice as5 ys.length cs5) ys)) rfl (by kernel_rfl) (by kernel_rfl) (by kernel_rfl) (fun _ _ _ h => h) ?_ ?_
    rotate_left
    · first | (refine Or.inl ⟨by rfl, fun W hS => detR_value (w' := W) ?_ (Below.refl _ _)⟩; obtain ⟨⟨⟨⟨⟨hH, q1⟩, r4⟩, r0⟩, r2⟩, r5⟩ := hS; obtain ⟨x0, x1, x2, _⟩ := hH.1; go_simp; first | done | with_reducible rfl) | fail
    simp only [Act.put, List.setIfInBounds_toArray, List.set_cons_zero, List.set_cons_succ]
    refine doneW (by kernel_rfl) fun wH1 HG => ?_
    obtain ⟨⟨⟨⟨⟨hH, q1⟩, r4⟩, r0⟩, r2⟩, r5⟩ := HG
    have H1 := Lib.hid hH; clear hH
    have MH1_q1 := Lib.hid q1; clear q1
    have MH1_o4 := Lib.hid r4; clear r4
    have MH1_o0 := Lib.hid r0; clear r0
    have MH1_o2 := Lib.hid r2; clear r2
    have MH1_o5 := Lib.hid r5; clear r5
    try clear x0 x1 x2
    have M2 := Lib.hid MH1_o5.out
    clear MH1_o5
    obtain ⟨x0, x1, x2, _⟩ := H1.out.1
    cases d1
    · go_wp2_with fail
      refine (HD1.out _ (HV.out.step H1.out.below)).mono ?_
      rintro e w2 ⟨rfl, hb⟩
      have H2 := Lib.hid (H1.out.step hb); clear hb
      obtain ⟨v', w', hr, ho, hb⟩ := HA.out (w2.alloc (.cells #[] 80)) _ (HV.out.step (H2.out.alloc _).below) w2.heap.size (heap_alloc_new w2 _) H2.out.below.size
      have H4 := Lib.hid ((H2.out.alloc (.cells #[] 80)).step hb)
      have M4 := Lib.hid ho; clear ho hb
      go_wp2_with (at_builtin; refine wpList_append_run rfl _ _ 72 rfl v' w' hr ?_)
      clear hr
      go_wp2_with fail
      go_ret2
      have hok : ok = false := by rw [HB.out]; simp
      refine ⟨_, by rw [hok]; rfl, ?_, H4.out.below⟩
      rw [HT.out, if_neg (by rw [hok]; simp)]
      exact M4.out
    cases d2
    · go_wp2_with fail
      refine (HD1.out _ (HV.out.step H1.out.below)).mono ?_
      rintro e w2 ⟨rfl, hb⟩
      have H1' := Lib.hid (H1.out.step hb)
      have M2' := Lib.hid (M2.out.step hb); clear hb
      go_wp2_with fail
      refine (HD2.out _ _ M2'.out.trs).mono ?_
      rintro e w3 ⟨rfl, hb⟩
      have H2 := Lib.hid (H1'.out.step hb); clear hb
      obtain ⟨v', w', hr, ho, hb⟩ := HA.out (w3.alloc (.cells #[] 80)) _ (HV.out.step (H2.out.alloc _).below) w3.heap.size (heap_alloc_new w3 _) H2.out.below.size
      have H4 := Lib.hid ((H2.out.alloc (.cells #[] 80)).step hb)
      have M4 := Lib.hid ho; clear ho hb
      go_wp2_with (at_builtin; refine wpList_append_run rfl _ _ 72 rfl v' w' hr ?_)
      clear hr
      go_wp2_with fail
      go_ret2
      have hok : ok = false := by rw [HB.out]; simp
      refine ⟨_, by rw [hok]; rfl, ?_, H4.out.below⟩
      rw [HT.out, if_neg (by rw [hok]; simp)]
      exact M4.out
    · go_wp2_with fail
      refine (HD1.out _ (HV.out.step H1.out.below)).mono ?_
      rintro e w2 ⟨rfl, hb⟩
      have H2 := Lib.hid (H1.out.step hb)
      have M2' := Lib.hid (M2.out.step hb); clear hb
      go_wp2_with fail
      refine (HD2.out _ _ M2'.out.trs).mono ?_
      rintro e w3 ⟨rfl, hb⟩
      have H3 := Lib.hid (H2.out.step hb)
      have M3 := Lib.hid (M2'.out.step hb); clear hb
      go_wp2_with fail
      go_ret2
      have hok : ok = true := by rw [HB.out]; rfl
      refine ⟨_, by rw [hok]; rfl, ?_, H3.out.below⟩
      rw [HT.out, if_pos hok]
      exact M3.out.mono (by omega)
end Go.Proofs.Ytfckgidilbjokac
