/-
  AddLead of the program: a copy of the window with one lead more, or the copy alone.
-/
import Derived.Test.YtkkjcdilpbofmaaAdd
import Derived.Deep.RegionLaw
import Derived.Deep.AppendLies
namespace Go.Proofs.Ytkkjcdilpbofmaa
open Go.RowKit
set_option linter.unusedVariables false
set_option linter.unusedSimpArgs false


set_option maxRecDepth 100000 in
set_option maxHeartbeats 1000000 in
theorem implAdd (ns ls : List Nd) (vn vl : Value) (a b : Int) (w : World) (hn : Prs w vn ns) (hl : Prs w vl ls) (h1 : ns.length ≤ 1048576) (h2 : ls.length ≤ 1048576) :
    Calls Try.prog 40 #[.agg #[vn, vl], .int .i64 a, .int .i64 b] w (WinBIs ns (addL ns ls a b) (addB ns ls a b) w) := by
  have HN := Lib.hid hn
  have HL := Lib.hid hl
  obtain ⟨A, c, rfl⟩ := prs_form2 hn
  obtain ⟨A2, c2, rfl⟩ := prs_form2 hl
  clear hn hl
  obtain ⟨i1, hi0, hz0, hz1, hz2⟩ := info_parts infoLead
  have HF := Lib.hid (And.intro hi0 (And.intro hz0 (And.intro hz1 hz2))); clear hi0 hz0 hz1 hz2
  have H0 := Lib.hid (held_res w (.slice A ns.length c) (.slice A2 ls.length c2) 38 38)
  have B0 := Lib.hid (show BlkN (w.heap.size + 1) 38 2 ((w.alloc (.cells #[.slice A ns.length c, .slice A2 ls.length c2] 38)).alloc (.cells #[.slice none 0 0, .slice none 0 0] 38)) from ⟨_, hz2 _ _ _, rfl⟩)
  have HC := Lib.hid (fun w k1 k2 => copyOf_any ns ls (.slice A ns.length c) (.slice A2 ls.length c2) w k1 k2 h1 h2)
  unfold CopyIs at HC
  have HW := Lib.hid (fun w k1 k2 => implWin ns ls (.slice A ns.length c) (.slice A2 ls.length c2) w k1 k2)
  have HO := Lib.hid (fun w => leadOf_any a b w)
  have e1 := min_if a b
  have e2 := max_if a b
  have HY := Lib.hid (show ∀ r, r = addB ns ls a b → (r = true → addL ns ls a b = ls ++ [⟨min a b, max a b⟩]) ∧ (r = false → addL ns ls a b = ls) from fun r hr => ⟨fun h => addL_yes rfl rfl (by rw [← hr]; exact h), fun h => addL_no (by rw [← hr]; exact h)⟩)
  have HB := Lib.hid (show addB ns ls a b = (winB ns ls && winB ns (ls ++ [⟨min a b, max a b⟩])) from rfl)
  have HW2 := Lib.hid (fun v1 v2 w k1 k2 => implWin ns (ls ++ [⟨min a b, max a b⟩]) v1 v2 w k1 k2)
  generalize addL ns ls a b = rl at *
  generalize addB ns ls a b = r at *
  generalize min a b = m1 at *
  generalize max a b = m2 at *
  have HYE := Lib.hid (HY.out r rfl); clear HY
  obtain ⟨l2, hl2⟩ : ∃ l2, l2 = ls ++ [(⟨m1, m2⟩ : Nd)] := ⟨_, rfl⟩
  rw [← hl2] at HYE HW2 HB
  have HL2 := Lib.hid hl2; clear hl2
  generalize winB ns ls = d1 at *
  generalize winB ns l2 = d2 at *
  go_enter Try.func40, Try.ntmps40
  obtain ⟨x0, x1, x2, x3, _⟩ := H0.out.1
  go_wp2_with fail
  refine (HW.out _ (HN.out.step H0.out.below) (HL.out.step H0.out.below)).mono ?_
  rintro e w1 ⟨rfl, hb⟩
  have H1 := Lib.hid (H0.out.step hb)
  have B1 := Lib.hid (B0.out.step hb)
  clear hb x0 x1 x2 x3
  obtain ⟨x0, x1, x2, x3, _⟩ := H1.out.1
  cases d1
  · obtain rfl : r = false := by rw [HB.out]; rfl
    have HX := H1
    have BX := B1
    go_wp2_with fail
    refine (HC.out _ (HN.out.step HX.out.below) (HL.out.step HX.out.below)).mono ?_
    rintro e w8 ⟨u1, u2, rfl, hm, hb⟩
    have hb6 := HX.out.2.1.1
    have H8 := Lib.hid (HX.out.step hb)
    have f0 := (BX.out.step hb).frozen 0
    have f1 := (BX.out.step hb).frozen 1
    have OU := Lib.hid hm.own
    have MU := Lib.hid hm
    clear hm hb
    try clear x0 x1 x2 x3
    obtain ⟨aU, cU, rfl, -⟩ := MU.out.1.form
    obtain ⟨aU', cU', rfl, -⟩ := MU.out.2.form
    have MZ := Lib.hid (((MU.out.setFar (b := w.heap.size + 1) (o := 0) (x := .slice aU ns.length cU) (fun e => by have := OU.out _ (.inl e); omega) (fun e => by have := OU.out _ (.inr e); omega)).setFar (b := w.heap.size + 1) (o := 1) (x := .slice aU' ls.length cU') (fun e => by have := OU.out _ (.inl e); omega) (fun e => by have := OU.out _ (.inr e); omega)).mono (Lo' := w.heap.size) (by omega))
    have HZ := Lib.hid (H8.out.put2 (x' := .slice aU ns.length cU) (z := .slice aU' ls.length cU') ⟨by omega, by omega, trivial⟩ (by omega))
    have x2 := H8.out.1.1
    have x3 := H8.out.1.2.1
    go_wp2_with fail
    have y0 := HZ.out.1.1
    have y1 := HZ.out.1.2.1
    refine bodyPost_ret (v := .tuple #[.agg #[.slice aU ns.length cU, .slice aU' ls.length cU'], .bool false]) (by simp [results, Try.results40, go_sem, y0, y1]) rfl ?_
    exact ⟨_, _, rfl, by rw [HYE.out.2 trivial]; exact MZ.out, HZ.out.below⟩
  · go_wp2_with fail
    refine (HC.out _ (HN.out.step H1.out.below) (HL.out.step H1.out.below)).mono ?_
    rintro e w2 ⟨v1, v2, rfl, hm, hb⟩
    have H2 := Lib.hid (H1.out.step hb)
    have hs1 := H1.out.2.1.1
    have hs2 := hb.size
    have MO2 := Lib.hid (hm.mono (Lo' := w.heap.size + 2) (by omega))
    have OB := Lib.hid MO2.out.own
    have B2 := Lib.hid (B1.out.step hb)
    clear hm hb x0 x1 x2 x3
    obtain ⟨a1, c1, rfl, -⟩ := MO2.out.1.form
    obtain ⟨a2, c2', rfl, -⟩ := MO2.out.2.form
    have bb : Below w2.heap.size w2 (w2.alloc (.cells #[.slice a1 ns.length c1, .slice a2 ls.length c2'] 38)) := (Below.refl _ _).alloc (Nat.le_refl _) _
    have H3 := Lib.hid (H2.out.new2 w2.heap.size rfl [.slice a1 ns.length c1, .slice a2 ls.length c2'] 38)
    have MO3 := Lib.hid (MO2.out.step bb)
    have B3 := Lib.hid (B2.out.step bb)
    have X3 := Lib.hid (heap_alloc_new w2 (.cells #[.slice a1 ns.length c1, .slice a2 ls.length c2'] 38))
    clear bb MO2 B2 B1
    obtain ⟨x0, x1, x2, x3, x4, x5, _⟩ := H3.out.1
    have AP := Lib.hid (MO3.out.1.apart MO3.out.2 node_lead)
    have f1 : (w2.alloc (.cells #[.slice a1 ns.length c1, .slice a2 ls.length c2'] 38)).frozen? ⟨w2.heap.size, 1, none⟩ = false := BlkN.frozen ⟨_, X3.out, rfl⟩ 1
    obtain ⟨hi, hz0, hz1, hz2⟩ := HF.out
    have hne : (Value.slice a2 ls.length c2').ownBlock ≠ some w2.heap.size := fun e => by have := OB.out _ (.inr e); omega
    clear x2 x3 x4 x5 e1 e2
    go_wp2_with fail
    have hz3 : w2.heap.size < (w2.alloc (.cells #[.slice a1 ns.length c1, .slice a2 ls.length c2'] 38)).drew.heap.size := by show _ < (w2.alloc _).heap.size; simp
    go_region_law (first
        | (go_simp
           go_at_call 82
           refine (HO.out _).mono ?_
           rintro e w5 ⟨rfl, hb5⟩
           have k5 := (hb5.cell (p := ⟨w2.heap.size, 1, none⟩) hz3).trans x1
           have g5 := (hb5.frozen (p := ⟨w2.heap.size, 1, none⟩) hz3).trans f1
           have hz5 : w2.heap.size < w5.heap.size := Nat.lt_of_lt_of_le hz3 hb5.size)
        | ((refine step_append_lies _ (by rfl) _ _ _ (by rfl) (w.heap.size + 2) 57 i1 _ 2 16 Try.underlying36 hi hz0 hz1 hz2 rfl (by omega) (.slice a2 ls.length c2') ls.length (cellsP ls) (by rfl) (World.ownsRow.alloc (MO3.out.2.step ((Below.refl _ _).drew.trans hb5)) _) ⟨w5.heap.size, 0, none⟩ 1 1 [.int .i64 m1, .int .i64 m2] (by rfl) (by rfl) (World.news_of_block (cs := #[.int .i64 m1, .int .i64 m2]) (t := 57) (fr := (0, 0)) (heap_alloc_new w5 _)) (by simp [Value.oneCell']) (by omega) (by unfold maxLen; omega) (by omega) (by simp; omega) (w5.heap.size + 1) (by simp) ?_
            intro gg cap w6 hown1 hgrow hat hlt
            have hb6 := (hb5.trans ((Below.refl _ w5).alloc hb5.size (.cells #[.int .i64 m1, .int .i64 m2] 57)))
            have k6 := (hgrow.cell_far ⟨w2.heap.size, 1, none⟩ (Nat.lt_of_lt_of_le hz3 hb6.size) (Ne.symm hne)).trans ((hb6.cell (p := ⟨w2.heap.size, 1, none⟩) hz3).trans x1)
            have g6 := (hgrow.frozen_far ⟨w2.heap.size, 1, none⟩ (Nat.lt_of_lt_of_le hz3 hb6.size) (Ne.symm hne)).trans ((hb6.frozen (p := ⟨w2.heap.size, 1, none⟩) hz3).trans f1))))
    all_goals
      have hb7 := Lib.hid ((Below.refl _ _).drew.trans hb6)
      have hL : ls.length + 1 = l2.length := by rw [HL2.out]; simp
      have H4 := Lib.hid ((H3.out.step hb7.out).grown hgrow ⟨fun e => by have := OB.out _ (.inr e); omega, fun e => by have := OB.out _ (.inr e); omega, fun e => by have := OB.out _ (.inr e); omega, fun e => by have := OB.out _ (.inr e); omega, fun e => by have := OB.out _ (.inr e); omega, fun e => by have := OB.out _ (.inr e); omega, trivial⟩ (fun k e => by have := OB.out _ (.inr e); omega))
      have M4 := Lib.hid (MO3.out.1.step hb7.out)
      have MN4 := Lib.hid (M4.out.keep fun k e => hgrow.block k (M4.out.own k e).2 (fun e2 => AP.out k e e2.symm))
      have MV4 := Own.more (xs := ls) (ys := [⟨m1, m2⟩]) hown1
      have hgg : gg ≠ w2.heap.size := by
        rcases hat with e2 | e2
        · have := OB.out _ (.inr e2); omega
        · omega
      rw [← HL2.out] at MV4
      rw [hL] at MV4 ⊢
      have hv1 : (Value.slice a1 ns.length c1).ownBlock ≠ some w2.heap.size := fun e => by have := OB.out _ (.inl e); omega
      have B5 := Lib.hid (((B3.out.step hb7.out).same (hgrow.block (w.heap.size + 1) (by have := hb7.out.size; simp at this ⊢; omega) (fun e => by have := OB.out _ (.inr e.symm); omega))).setFar (g := w2.heap.size) (o := 1) (x := .slice (some ⟨gg, 0, none⟩) l2.length cap) (by omega))
      have MW5 := Lib.hid (show WinO (w6.setCell ⟨w2.heap.size, 1, none⟩ (.slice (some ⟨gg, 0, none⟩) l2.length cap)) (w.heap.size + 2) (.slice a1 ns.length c1) (.slice (some ⟨gg, 0, none⟩) l2.length cap) ns l2 from ⟨MN4.out.setFar hv1, MV4.setFar (fun e => hgg (by simpa [Value.ownBlock] using e))⟩)
      have H5 := Lib.hid (H4.out.put1 (z := .slice (some ⟨gg, 0, none⟩) l2.length cap) ⟨by omega, by omega, by omega, by omega, trivial⟩ (by omega))
      clear hown1 hgrow hat hlt hb5 hb6 k5 g5 k6 g6 hgg hv1 MV4 M4 MN4 H4 x0 x1 f1 hL hi hz0 hz1 hz2 hne
      obtain ⟨x0, x1, x2, x3, x4, x5, _⟩ := H5.out.1
      go_wp2_with fail
      refine (HW2.out _ _ _ MW5.out.1.prs MW5.out.2.prs).mono ?_
      rintro e w7 ⟨rfl, hb⟩
      have H7 := Lib.hid (H5.out.step hb)
      have MW7 := Lib.hid (MW5.out.step hb)
      have BX := Lib.hid (B5.out.step hb)
      have HX := Lib.hid (H7.out.only (fun h => h.2.2) (fun h => h.2.2))
      have OW := Lib.hid MW7.out.own
      clear hb x0 x1 x2 x3 x4 x5
      obtain ⟨x0, x1, x2, x3, x4, x5, _⟩ := H7.out.1
      cases d2
      · obtain rfl : r = false := by rw [HB.out]; rfl
        go_wp2_with fail
        clear x0 x1
        refine (HC.out _ (HN.out.step HX.out.below) (HL.out.step HX.out.below)).mono ?_
        rintro e w8 ⟨u1, u2, rfl, hm, hb⟩
        have hb6 := HX.out.2.1.1
        have H8 := Lib.hid (HX.out.step hb)
        have f0 := (BX.out.step hb).frozen 0
        have f1 := (BX.out.step hb).frozen 1
        have OU := Lib.hid hm.own
        have MU := Lib.hid hm
        clear hm hb
        try clear x0 x1 x2 x3
        obtain ⟨aU, cU, rfl, -⟩ := MU.out.1.form
        obtain ⟨aU', cU', rfl, -⟩ := MU.out.2.form
        have MZ := Lib.hid (((MU.out.setFar (b := w.heap.size + 1) (o := 0) (x := .slice aU ns.length cU) (fun e => by have := OU.out _ (.inl e); omega) (fun e => by have := OU.out _ (.inr e); omega)).setFar (b := w.heap.size + 1) (o := 1) (x := .slice aU' ls.length cU') (fun e => by have := OU.out _ (.inl e); omega) (fun e => by have := OU.out _ (.inr e); omega)).mono (Lo' := w.heap.size) (by omega))
        have HZ := Lib.hid (H8.out.put2 (x' := .slice aU ns.length cU) (z := .slice aU' ls.length cU') ⟨by omega, by omega, trivial⟩ (by omega))
        have x2 := H8.out.1.1
        have x3 := H8.out.1.2.1
        go_wp2_with fail
        have y0 := HZ.out.1.1
        have y1 := HZ.out.1.2.1
        refine bodyPost_ret (v := .tuple #[.agg #[.slice aU ns.length cU, .slice aU' ls.length cU'], .bool false]) (by simp [results, Try.results40, go_sem, y0, y1]) rfl ?_
        exact ⟨_, _, rfl, by rw [HYE.out.2 trivial]; exact MZ.out, HZ.out.below⟩
      · obtain rfl : r = true := by rw [HB.out]; rfl
        have f0 := BX.out.frozen 0
        have f1 := BX.out.frozen 1
        have MZ := Lib.hid (((MW7.out.setFar (b := w.heap.size + 1) (o := 0) (x := .slice a1 ns.length c1) (fun e => by have := OW.out _ (.inl e); omega) (fun e => by have := OW.out _ (.inr e); omega)).setFar (b := w.heap.size + 1) (o := 1) (x := .slice (some ⟨gg, 0, none⟩) l2.length cap) (fun e => by have := OW.out _ (.inl e); omega) (fun e => by have := OW.out _ (.inr e); omega)).mono (Lo' := w.heap.size) (by omega))
        have HZ := Lib.hid (HX.out.put2 (x' := .slice a1 ns.length c1) (z := .slice (some ⟨gg, 0, none⟩) l2.length cap) ⟨by omega, by omega, trivial⟩ (by omega))
        go_wp2_with fail
        have y0 := HZ.out.1.1
        have y1 := HZ.out.1.2.1
        refine bodyPost_ret (v := .tuple #[.agg #[.slice a1 ns.length c1, .slice (some ⟨gg, 0, none⟩) l2.length cap], .bool true]) (by simp [results, Try.results40, go_sem, y0, y1]) rfl ?_
        exact ⟨_, _, rfl, by rw [HYE.out.1 trivial]; exact MZ.out, HZ.out.below⟩
end Go.Proofs.Ytkkjcdilpbofmaa
