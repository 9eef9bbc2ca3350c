/-
  The fewest bars, a gap apart: of the program and of the model.
-/
import Derived.Test.YtfppnaknnijobaaGap
import Derived.Defers
namespace Go.Proofs.Ytfppnaknnijobaa
open Go.RowKit
set_option linter.unusedVariables false
set_option linter.unusedSimpArgs false

/-- Bars from h on, a gap apart, put behind L, as long as the rest is wider than the gap. -/
def fwR (hi gap : Int) : Nat → Int → List Int → List Int
  | 0, _, L => L
  | f + 1, h, L => if gap < hi - h then fwR hi gap f (h + gap) (L ++ [h + gap]) else L
theorem fwR_go {hi gap h : Int} {L : List Int} {f : Nat} (h1 : gap < hi - h) (h2 : 1 ≤ gap) (h3 : hi - h ≤ f) : ∃ f', f = f' + 1 ∧ hi - (h + gap) ≤ f' ∧ fwR hi gap f h L = fwR hi gap f' (h + gap) (L ++ [h + gap]) := by
  cases f with
  | zero => omega
  | succ f => exact ⟨f, rfl, by omega, by rw [fwR, if_pos h1]⟩
theorem fwR_stop {hi gap h : Int} {L : List Int} {f : Nat} (h1 : ¬ gap < hi - h) : fwR hi gap f h L = L := by
  cases f with
  | zero => rfl
  | succ f => rw [fwR, if_neg h1]
def fwL (lo hi gap : Int) : List Int := fwR hi gap 20 lo []
theorem fwR_len {hi gap : Int} : ∀ (f : Nat) (h : Int) (L : List Int), (fwR hi gap f h L).length ≤ L.length + f
  | 0, _, L => by simp [fwR]
  | f + 1, h, L => by
    rw [fwR]
    split
    · have := fwR_len f (h + gap) (L ++ [h + gap]) (hi := hi) (gap := gap)
      simp at this
      omega
    · omega
theorem fwL_len (lo hi gap : Int) : (fwL lo hi gap).length ≤ 20 := by
  have := fwR_len 20 lo [] (hi := hi) (gap := gap)
  simpa [fwL] using this
noncomputable def fewA (lo hi gap : Int) : List Int := if barB (fwL lo hi gap) = true then fwL lo hi gap else []
noncomputable def fewL (ns ls : List Nd) (gap : Int) : List Int := if (winB ns ls && inB gap 1 20) = true then fewA (lowN ns ns.length) (highN ns ns.length) gap else []
theorem fewL_len (ns ls : List Nd) (gap : Int) : (fewL ns ls gap).length ≤ 20 := by
  unfold fewL fewA
  split
  · split
    · exact fwL_len _ _ _
    · exact Nat.zero_le _
  · exact Nat.zero_le _

/-- The first new block holds one value. -/
def S1 (w W : World) (v : Value) : Prop := W.heap[w.heap.size]? = some (.cells #[v] 26) ∧ Below w.heap.size w W
theorem S1.step {w W W' : World} {v : Value} (h : S1 w W v) (hb : Below W.heap.size W W') : S1 w W' v := ⟨(hb.block _ (lt_of_block h.1)).trans h.1, h.2.trans (hb.mono h.2.size)⟩
theorem S1.start (w : World) (v : Value) : S1 w (w.alloc (.cells #[v] 26)) v := ⟨heap_alloc_new w _, (Below.refl _ _).alloc (Nat.le_refl _) _⟩
theorem S1.put {w W : World} {v : Value} (h : S1 w W v) (u : Value) : S1 w (W.setCell ⟨w.heap.size, 0, none⟩ u) u :=
  ⟨heap_setCell_self (k := 0) h.1 u, h.2.setCell (p := ⟨_, _, none⟩) (Nat.le_refl _) _⟩
theorem Ints.put {B b : Nat} {W : World} {v u : Value} {xs : List Int} (h : Ints W B v xs) (hb : b < B) : Ints (W.setCell ⟨b, 0, none⟩ u) B v xs := by
  refine ⟨h.1, ?_⟩
  rcases h.2 with h0 | ⟨g, cap, cur, hv, hB, hg, r⟩
  · exact .inl h0
  · exact .inr ⟨g, cap, cur, hv, hB, (Below.heap_setCell _ _ _ _ (by simp; omega)).trans hg, r⟩
theorem ints_formF {B : Nat} {W : World} {v : Value} {xs : List Int} (h : Ints W B v xs) : ∃ a c, v = .slice a xs.length c := by
  obtain ⟨a, c, e, _⟩ := h.form
  exact ⟨a, c, e⟩

set_option maxRecDepth 100000 in
theorem barsApart1 (B : Nat) (w W : World) (v : Value) (L : List Int) (h : S1 w W v) (hI : Ints W (w.heap.size + 1) v L) :
    CallsD Try.prog 105 #[.pointer (some ⟨w.heap.size, 0, none⟩)] .returning W fun e u' W' => u' = .returning ∧ (e = .returned (.tuple #[]) ∧
      ∃ u, S1 w W' u ∧ Ints W' (w.heap.size + 1) u (if barB L = true then L else [])) := by
  have HS := Lib.hid h
  have HI := Lib.hid hI
  have HB := Lib.hid (implBars L v W hI.seq)
  unfold BoolIs at HB
  clear h hI
  generalize barB L = d at *
  cases d
  · have k9 := HS.out.1
    have z0 : _ = some _ := (cell_of_cells (k := 0) k9).trans rfl
    have f0 := free_of_cells (k := 0) k9
    have y9 := lt_of_block k9
    clear k9
    go_enter_d Try.func105, Try.ntmps105
    go_wp2_with fail
    refine HB.out.mono ?_
    rintro e w2 ⟨rfl, hb⟩
    replace HS := Lib.hid (HS.out.step hb); clear hb z0 f0 y9
    have k9 := HS.out.1
    have z0 : _ = some _ := (cell_of_cells (k := 0) k9).trans rfl
    have f0 := free_of_cells (k := 0) k9
    have y9 := lt_of_block k9
    clear k9
    go_wp2_with fail
    go_end0
    exact ⟨rfl, _, HS.out.put _, Ints.nil _ _⟩
  · have k9 := HS.out.1
    have z0 : _ = some _ := (cell_of_cells (k := 0) k9).trans rfl
    have f0 := free_of_cells (k := 0) k9
    have y9 := lt_of_block k9
    clear k9
    go_enter_d Try.func105, Try.ntmps105
    go_wp2_with fail
    refine HB.out.mono ?_
    rintro e w2 ⟨rfl, hb⟩
    replace HS := Lib.hid (HS.out.step hb)
    replace HI := Lib.hid (HI.out.step hb); clear hb z0 f0 y9
    go_wp2_with fail
    go_end0
    exact ⟨rfl, _, HS.out, HI.out⟩

set_option maxRecDepth 100000 in
set_option maxHeartbeats 1000000 in
theorem implApart (lo hi gap : Int) (w : World) (h1 : 0 ≤ lo ∧ lo ≤ 20) (h2 : 0 ≤ hi ∧ hi ≤ 20) (h3 : 1 ≤ gap ∧ gap ≤ 20) :
    Calls Try.prog 66 #[.int .i64 lo, .int .i64 hi, .int .i64 gap] w (IntsNew (fewA lo hi gap) w) := by
  have hmf : ∀ (fn : Fn) (first cap : Array Value) (w : World), (Instr.makeFunc fn first cap).run Try.prog w = .ok (.func fn first cap) w := fun _ _ _ _ => rfl
  have HFW := Lib.hid (show fewA lo hi gap = if barB (fwL lo hi gap) = true then fwL lo hi gap else [] from rfl)
  have HF0 := Lib.hid (show fwR hi gap 20 lo [] = fwL lo hi gap from rfl)
  generalize fwL lo hi gap = F at *
  have HD := Lib.hid (fun W v h hI => barsApart1 0 w W v F h hI)
  rw [← HFW.out] at HD
  generalize fewA lo hi gap = R at *
  obtain ⟨i0, hi', hz0, hz1, hz2⟩ := info_parts infoInt
  have HF := Lib.hid (And.intro hi' (And.intro hz0 (And.intro hz1 hz2))); clear hi' hz0 hz1 hz2
  go_enter_defers Try.func66, Try.ntmps66
  go_wp2_with fail
  go_loopw [7] (fun hv wr => ∃ (h : Int) (f : Nat) (L : List Int) (v : Value), hv = .int .i64 h ∧ (lo ≤ h ∧ h ≤ hi + lo) ∧ L.length + f = 20 ∧ hi - h ≤ f ∧ fwR hi gap f h L = F ∧ S1 w wr v ∧ Ints wr (w.heap.size + 1) v L) (fun hv _ => (hi - intOf hv).toNat)
  case atStart => exact ⟨lo, 20, [], _, rfl, by omega, rfl, by omega, HF0.out, S1.start _ _, Ints.nil _ _⟩
  case round =>
    obtain ⟨h, f, L, v, rfl, ⟨hb1, hb2⟩, hlf, hf, hr, hs, ho⟩ := hrel
    have HS := Lib.hid hs; clear hs
    have HO := Lib.hid ho; clear ho
    by_cases hlt : gap < hi - h
    · obtain ⟨f', rfl, hf', he⟩ := fwR_go (L := L) hlt h3.1 hf
      have HRE := Lib.hid (he.symm.trans hr)
      clear hr he
      obtain ⟨a9, c9, rfl⟩ := ints_formF HO.out
      have k9 := HS.out.1
      have z0 : _ = some _ := (cell_of_cells (k := 0) k9).trans rfl
      have f0 := free_of_cells (k := 0) k9
      have y9 := lt_of_block k9
      clear k9
      have hln : L.length ≤ 20 := by omega
      obtain ⟨hi', hz0, hz1', hz2'⟩ := HF.out
      go_wp2_with (at_builtin; refine wpList_append_own _ rfl _ _ 26 rfl (w.heap.size + 1) 3 i0 (.int .i64 0) 1 8 Try.underlying26 hi' hz0 hz1' hz2' rfl (by decide) _ _ _ rfl (World.ownsRow.alloc HO.out _) ⟨wr.heap.size, 0, none⟩ 1 1 [.int .i64 (h + gap)] rfl rfl ?c1 ?c2 ?c3 ?c4 ?c5 ?_)
      case c1 => exact cell_one_new _ _ _
      case c2 => simp [Value.oneCell']
      case c3 => unfold maxLen; omega
      case c4 => omega
      case c5 => simp; omega
      intro v' w2 hown hgrow _
      have HB2 := Lib.hid (grown_below HO.out y9 hgrow)
      replace HS := Lib.hid (show S1 w w2 (.slice a9 L.length c9) from ⟨(HB2.out.block _ (Nat.lt_succ_self _)).trans HS.out.1, HS.out.2.trans (HB2.out.mono (Nat.le_succ _))⟩)
      have HO2 := Lib.hid (Ints.more hown); clear hown hgrow z0 f0 y9
      obtain ⟨a8, c8, rfl⟩ := ints_formF HO2.out
      replace HO2 := Lib.hid (show Ints w2 (w.heap.size + 1) (.slice a8 (L.length + 1) c8) (L ++ [h + gap]) from by
        have h9 := HO2.out
        rw [show (L ++ [h + gap]).length = L.length + 1 from by simp] at h9
        exact h9)
      have k9 := HS.out.1
      have z0 : _ = some _ := (cell_of_cells (k := 0) k9).trans rfl
      have f0 := free_of_cells (k := 0) k9
      have y9 := lt_of_block k9
      clear k9
      go_wp2_with fail
      exact ⟨⟨h + gap, f', L ++ [h + gap], _, by go_num, by omega, by simp; omega, hf', HRE.out, HS.out.put _, Ints.put HO2.out (Nat.lt_succ_self _)⟩, by simp [intOf]; omega⟩
    · have HRE := Lib.hid ((fwR_stop hlt).symm.trans hr)
      clear hr
      obtain rfl := HRE.out
      obtain ⟨a9, c9, rfl⟩ := ints_formF HO.out
      have k9 := HS.out.1
      have z0 : _ = some _ := (cell_of_cells (k := 0) k9).trans rfl
      have f0 := free_of_cells (k := 0) k9
      have y9 := lt_of_block k9
      clear k9
      go_wp2_with fail
      refine leaves_cons (f := 105) (args := #[.pointer (some ⟨w.heap.size, 0, none⟩)]) (by simp) (by simp [go_sem]) ?_
      refine (HD.out _ _ (HS.out.put _) (Ints.put HO.out (Nat.lt_succ_self _))).mono ?_
      rintro e u' w2 ⟨rfl, rfl, u, hs, hi2⟩
      have c0 : _ = some u := (cell_of_cells (k := 0) hs.1).trans rfl
      refine ⟨u, ?_, u, rfl, hi2.mono (by omega), hs.2⟩
      simp [results, Try.results66, go_sem, c0]

set_option maxRecDepth 100000 in
set_option maxHeartbeats 1000000 in
theorem implFew (ns ls : List Nd) (gap : Int) (vn vl : Value) (w : World) (hn : Prs w vn ns) (hl : Prs w vl ls) :
    Calls Try.prog 27 #[.agg #[vn, vl], .int .i64 gap] w (IntsNew (fewL ns ls gap) w) := by
  have HN := Lib.hid hn
  have HL := Lib.hid hl
  have hlenN := hn.len
  obtain ⟨A, c, rfl⟩ := prs_form2 hn
  obtain ⟨A2, c2, rfl⟩ := prs_form2 hl
  clear hn hl
  have H0 := Lib.hid (held_pair w (.slice A ns.length c) (.slice A2 ls.length c2) 32)
  have HR := Lib.hid (show fewL ns ls gap = if (winB ns ls && inB gap 1 20) = true then fewA (lowN ns ns.length) (highN ns ns.length) gap else [] from rfl)
  have HW := Lib.hid (fun w h1 h2 => implWin ns ls (.slice A ns.length c) (.slice A2 ls.length c2) w h1 h2)
  cases hw : winB ns ls
  · rw [hw] at HW
    replace HR := Lib.hid (show fewL ns ls gap = [] from by rw [HR.out, hw]; rfl)
    generalize fewL ns ls gap = r at *
    go_enter Try.func27, Try.ntmps27
    obtain ⟨x0, x1, _⟩ := H0.out.1
    go_wp2_with fail
    refine (HW.out _ (HN.out.step H0.out.below) (HL.out.step H0.out.below)).mono ?_
    rintro e wH1 ⟨rfl, hb⟩
    have H1 := Lib.hid ((H0.out).step hb); clear hb
    try clear x0 x1
    obtain ⟨x0, x1, _⟩ := H1.out.1
    go_wp2_with fail
    go_ret
    exact ⟨_, rfl, by rw [HR.out]; exact Ints.nil _ _, H1.out.below⟩
  rw [hw] at HW
  by_cases h1 : gap < 1
  · replace HR := Lib.hid (show fewL ns ls gap = [] from by
      rw [HR.out, hw, show inB gap 1 20 = false from by
        cases hg : inB gap 1 20
        · rfl
        · have := (inB_iff _ _ _).1 hg; omega]
      rfl)
    generalize fewL ns ls gap = r at *
    go_enter Try.func27, Try.ntmps27
    obtain ⟨x0, x1, _⟩ := H0.out.1
    go_wp2_with fail
    refine (HW.out _ (HN.out.step H0.out.below) (HL.out.step H0.out.below)).mono ?_
    rintro e wH1 ⟨rfl, hb⟩
    have H1 := Lib.hid ((H0.out).step hb); clear hb
    try clear x0 x1
    obtain ⟨x0, x1, _⟩ := H1.out.1
    go_wp2_with fail
    go_ret
    exact ⟨_, rfl, by rw [HR.out]; exact Ints.nil _ _, H1.out.below⟩
  by_cases h2 : 20 < gap
  · replace HR := Lib.hid (show fewL ns ls gap = [] from by
      rw [HR.out, hw, show inB gap 1 20 = false from by
        cases hg : inB gap 1 20
        · rfl
        · have := (inB_iff _ _ _).1 hg; omega]
      rfl)
    generalize fewL ns ls gap = r at *
    go_enter Try.func27, Try.ntmps27
    obtain ⟨x0, x1, _⟩ := H0.out.1
    go_wp2_with fail
    refine (HW.out _ (HN.out.step H0.out.below) (HL.out.step H0.out.below)).mono ?_
    rintro e wH1 ⟨rfl, hb⟩
    have H1 := Lib.hid ((H0.out).step hb); clear hb
    try clear x0 x1
    obtain ⟨x0, x1, _⟩ := H1.out.1
    go_wp2_with fail
    go_ret
    exact ⟨_, rfl, by rw [HR.out]; exact Ints.nil _ _, H1.out.below⟩
  · replace HR := Lib.hid (show fewL ns ls gap = fewA (lowN ns ns.length) (highN ns ns.length) gap from by
      rw [HR.out, hw, show inB gap 1 20 = true from (inB_iff _ _ _).2 (by omega)]
      rfl)
    have hp := win_pos hw
    obtain ⟨l1, l2⟩ := low_high_bd hw ns.length (Nat.le_refl _)
    have HHT := Lib.hid (fun w h => implHeights ns (.slice A ns.length c) w h hp)
    unfold TwoIs at HHT
    have HAP := Lib.hid (fun w => implApart (lowN ns ns.length) (highN ns ns.length) gap w l1 l2 (by omega))
    rw [← HR.out] at HAP
    unfold IntsNew at HAP
    generalize fewL ns ls gap = r at *
    generalize lowN ns ns.length = lo at *
    generalize highN ns ns.length = hi at *
    go_enter Try.func27, Try.ntmps27
    obtain ⟨x0, x1, _⟩ := H0.out.1
    go_wp2_with fail
    refine (HW.out _ (HN.out.step H0.out.below) (HL.out.step H0.out.below)).mono ?_
    rintro e wH1 ⟨rfl, hb⟩
    have H1 := Lib.hid ((H0.out).step hb); clear hb
    try clear x0 x1
    obtain ⟨x0, x1, _⟩ := H1.out.1
    go_wp2_with fail
    refine (HHT.out _ (HN.out.step H1.out.below)).mono ?_
    rintro e wH2 ⟨rfl, hb⟩
    have H2 := Lib.hid ((H1.out).step hb); clear hb
    try clear x0 x1
    obtain ⟨x0, x1, _⟩ := H2.out.1
    go_wp2_with fail
    refine (HAP.out _).mono ?_
    rintro e w3 ⟨v3, rfl, hi3, hb⟩
    have H3 := Lib.hid (H2.out.step hb)
    have hsz := H2.out.below.size
    have HI3 := Lib.hid (hi3.mono hsz); clear hi3 hb
    go_wp2_with fail
    go_ret
    exact ⟨_, rfl, HI3.out, H3.out.below⟩

set_option maxRecDepth 100000 in
set_option maxHeartbeats 1000000 in
theorem specFew (ns ls : List Nd) (gap : Int) (vn vl : Value) (w : World) (hn : Prs w vn ns) (hl : Prs w vl ls) :
    Calls Try.prog 26 #[.agg #[vn, vl], .int .i64 gap] w (IntsNew (fewL ns ls gap) w) := by
  have HN := Lib.hid hn
  have HL := Lib.hid hl
  have hlenN := hn.len
  obtain ⟨A, c, rfl⟩ := prs_form2 hn
  obtain ⟨A2, c2, rfl⟩ := prs_form2 hl
  clear hn hl
  have H0 := Lib.hid (held_pair w (.slice A ns.length c) (.slice A2 ls.length c2) 32)
  have HR := Lib.hid (show fewL ns ls gap = if (winB ns ls && inB gap 1 20) = true then fewA (lowN ns ns.length) (highN ns ns.length) gap else [] from rfl)
  have HW := Lib.hid (fun w h1 h2 => specWin ns ls (.slice A ns.length c) (.slice A2 ls.length c2) w h1 h2)
  have HIN := Lib.hid (fun w => specIn gap 1 20 w)
  have HI0 := Lib.hid (Ints.made (w.alloc (.cells #[.slice A ns.length c, .slice A2 ls.length c2] 32)) (w.heap.size + 1) (w.heap.size + 1) (by simp) (Nat.le_refl _))
  replace H0 := Lib.hid (H0.out.alloc (.cells #[] 3))
  cases hw : winB ns ls
  · rw [hw] at HW
    replace HR := Lib.hid (show fewL ns ls gap = [] from by rw [HR.out, hw]; rfl)
    generalize fewL ns ls gap = r at *
    go_enter Try.func26, Try.ntmps26
    obtain ⟨x0, x1, _⟩ := H0.out.1
    go_wp2_with fail
    refine (HW.out _ (HN.out.step H0.out.below) (HL.out.step H0.out.below)).mono ?_
    rintro e wH1 ⟨rfl, hb⟩
    have HI0 := Lib.hid (HI0.out.step hb)
    have H1 := Lib.hid ((H0.out).step hb); clear hb
    try clear x0 x1
    obtain ⟨x0, x1, _⟩ := H1.out.1
    go_wp2_with fail
    go_ret
    exact ⟨_, rfl, by rw [HR.out]; exact HI0.out.mono (by omega), H1.out.below⟩
  rw [hw] at HW
  cases hg : inB gap 1 20
  · rw [hg] at HIN
    replace HR := Lib.hid (show fewL ns ls gap = [] from by rw [HR.out, hw, hg]; rfl)
    generalize fewL ns ls gap = r at *
    go_enter Try.func26, Try.ntmps26
    obtain ⟨x0, x1, _⟩ := H0.out.1
    go_wp2_with fail
    refine (HW.out _ (HN.out.step H0.out.below) (HL.out.step H0.out.below)).mono ?_
    rintro e wH1 ⟨rfl, hb⟩
    have HI0 := Lib.hid (HI0.out.step hb)
    have H1 := Lib.hid ((H0.out).step hb); clear hb
    try clear x0 x1
    obtain ⟨x0, x1, _⟩ := H1.out.1
    go_wp2_with fail
    refine (HIN.out _).mono ?_
    rintro e w3 ⟨rfl, rfl⟩
    go_wp2_with fail
    go_ret
    exact ⟨_, rfl, by rw [HR.out]; exact HI0.out.mono (by omega), H1.out.below⟩
  · rw [hg] at HIN
    have h3 := (inB_iff _ _ _).1 hg
    replace HR := Lib.hid (show fewL ns ls gap = fewA (lowN ns ns.length) (highN ns ns.length) gap from by rw [HR.out, hw, hg]; rfl)
    have hp := win_pos hw
    obtain ⟨h1, h2⟩ := low_high_bd hw ns.length (Nat.le_refl _)
    have HHT := Lib.hid (fun w h => specHeights ns (.slice A ns.length c) (.slice A2 ls.length c2) w h hp)
    unfold TwoIs at HHT
    clear hw hg hp
    generalize fewL ns ls gap = R at *
    generalize lowN ns ns.length = lo at *
    generalize highN ns ns.length = hi at *
    have HFW := Lib.hid (show fewA lo hi gap = if barB (fwL lo hi gap) = true then fwL lo hi gap else [] from rfl)
    have HF0 := Lib.hid (show fwR hi gap 20 lo [] = fwL lo hi gap from rfl)
    generalize fwL lo hi gap = F at *
    have HD := Lib.hid (fun v w h => specBars F v w h)
    unfold BoolIs at HD
    rw [HFW.out] at HR
    generalize barB F = d at *
    obtain ⟨i0, hi', hz0, hz1, hz2⟩ := info_parts infoInt
    have HF := Lib.hid (And.intro hi' (And.intro hz0 (And.intro hz1 hz2))); clear hi' hz0 hz1 hz2
    go_enter Try.func26, Try.ntmps26
    obtain ⟨x0, x1, _⟩ := H0.out.1
    go_wp2_with fail
    refine (HW.out _ (HN.out.step H0.out.below) (HL.out.step H0.out.below)).mono ?_
    rintro e wH1 ⟨rfl, hb⟩
    have HI0 := Lib.hid (HI0.out.step hb)
    have H1 := Lib.hid ((H0.out).step hb); clear hb
    try clear x0 x1
    obtain ⟨x0, x1, _⟩ := H1.out.1
    go_wp2_with fail
    refine (HIN.out _).mono ?_
    rintro e w3 ⟨rfl, rfl⟩
    go_wp2_with fail
    refine (HHT.out _ (HN.out.step H1.out.below)).mono ?_
    rintro e wH2 ⟨rfl, hb⟩
    have HI0 := Lib.hid (HI0.out.step hb)
    have H2 := Lib.hid ((H1.out).step hb); clear hb
    try clear x0 x1
    obtain ⟨x0, x1, _⟩ := H2.out.1
    go_wp2_with fail
    clear x0 x1
    go_loopw [5, 6] (fun v hv wr => ∃ (h : Int) (f : Nat) (L : List Int), hv = .int .i64 h ∧ (lo ≤ h ∧ h ≤ hi + lo) ∧ L.length + f = 20 ∧ hi - h ≤ f ∧ fwR hi gap f h L = F ∧ Ints wr (w.heap.size + 1) v L ∧ Held w wr [(w.heap.size, 0, .slice A ns.length c), (w.heap.size, 1, .slice A2 ls.length c2)]) (fun _ hv _ => (hi - intOf hv).toNat)
    case atStart => exact ⟨lo, 20, [], rfl, by omega, rfl, by omega, HF0.out, HI0.out, H2.out⟩
    case round =>
      clear H0 H1 H2 HI0
      obtain ⟨h, f, L, rfl, ⟨hb1, hb2⟩, hlf, hf, hr, ho, hh⟩ := hrel
      have HO := Lib.hid ho; clear ho
      have H3 := Lib.hid hh; clear hh
      have y9 := H3.out.2.1.1
      by_cases hlt : gap < hi - h
      · obtain ⟨f', rfl, hf', he⟩ := fwR_go (L := L) hlt h3.1 hf
        have HRE := Lib.hid (he.symm.trans hr)
        clear hr he
        have hln : L.length ≤ 20 := by omega
        have hlt2 : h + gap < hi := by omega
        obtain ⟨hi', hz0, hz1', hz2'⟩ := HF.out
        go_wp2_with (at_builtin; refine wpList_append_own _ rfl _ _ 26 rfl (w.heap.size + 1) 3 i0 (.int .i64 0) 1 8 Try.underlying26 hi' hz0 hz1' hz2' rfl (by decide) _ _ _ rfl (World.ownsRow.alloc HO.out _) ⟨wr.heap.size, 0, none⟩ 1 1 [.int .i64 (h + gap)] rfl rfl ?c1 ?c2 ?c3 ?c4 ?c5 ?_)
        case c1 => exact cell_one_new _ _ _
        case c2 => simp [Value.oneCell']
        case c3 => unfold maxLen; omega
        case c4 => omega
        case c5 => simp; omega
        intro v' w2 hown hgrow _
        have H4 := Lib.hid (H3.out.stepB (B := w.heap.size + 1) ⟨Nat.lt_succ_self _, Nat.lt_succ_self _, trivial⟩ (grown_below HO.out y9 hgrow) (Nat.le_succ _))
        have HO2 := Lib.hid (Ints.more hown); clear hown hgrow
        go_wp2_with fail
        exact ⟨⟨h + gap, f', L ++ [h + gap], by go_num, by omega, by simp; omega, hf', HRE.out, HO2.out, H4.out⟩, by simp [intOf]; omega⟩
      · have HRE := Lib.hid ((fwR_stop hlt).symm.trans hr)
        have hlt2 : ¬ h + gap < hi := by omega
        clear hr
        obtain rfl := HRE.out
        cases d
        · go_wp2_with fail
          refine (HD.out _ _ HO.out.seq).mono ?_
          rintro e wH4 ⟨rfl, hb⟩
          have H4 := Lib.hid ((H3.out).step hb); clear hb
          go_wp2_with fail
          go_ret
          have H5 := Lib.hid (H4.out.alloc (.cells #[] 3))
          exact ⟨_, rfl, by rw [HR.out]; exact Ints.made _ _ _ rfl H4.out.below.size, H5.out.below⟩
        · go_wp2_with fail
          refine (HD.out _ _ HO.out.seq).mono ?_
          rintro e wH4 ⟨rfl, hb⟩
          have HO := Lib.hid (HO.out.step hb)
          have H4 := Lib.hid ((H3.out).step hb); clear hb
          go_wp2_with fail
          go_ret
          exact ⟨_, rfl, by rw [HR.out]; exact HO.out.mono (by omega), H4.out.below⟩
end Go.Proofs.Ytfppnaknnijobaa
