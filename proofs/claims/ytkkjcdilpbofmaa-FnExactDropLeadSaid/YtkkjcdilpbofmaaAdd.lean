/-
  AddLead of the model: a copy of the window with one lead more, or the copy alone.
-/
import Derived.Test.YtkkjcdilpbofmaaAppP
import Derived.Test.YtkkjcdilpbofmaaLBet
import Derived.Test.YtkkjcdilpbofmaaWinJ
namespace Go.Proofs.Ytkkjcdilpbofmaa
open Go.RowKit
set_option linter.unusedVariables false
set_option linter.unusedSimpArgs false

def addB (ns ls : List Nd) (a b : Int) : Bool := winB ns ls && winB ns (ls ++ [⟨min a b, max a b⟩])
def addL (ns ls : List Nd) (a b : Int) : List Nd := if addB ns ls a b = true then ls ++ [⟨min a b, max a b⟩] else ls
/-- What a call hands back: a window of its own, and whether. -/
def WinBIs (ns ls : List Nd) (r : Bool) (w : World) (e : Ending) (w' : World) : Prop := ∃ v1 v2, e = .returned (.tuple #[.agg #[v1, v2], .bool r]) ∧ WinO w' w.heap.size v1 v2 ns ls ∧ Below w.heap.size w w'
theorem held_res (w : World) (vn vl : Value) (T U : TypeId) : Held w ((w.alloc (.cells #[vn, vl] T)).alloc (.cells #[.slice none 0 0, .slice none 0 0] U)) [(w.heap.size + 1, 0, .slice none 0 0), (w.heap.size + 1, 1, .slice none 0 0), (w.heap.size, 0, vn), (w.heap.size, 1, vl)] :=
  (held_pair w vn vl T).new2 (w.heap.size + 1) (by simp) [.slice none 0 0, .slice none 0 0] U
theorem addL_yes {ns ls : List Nd} {a b : Int} {m1 m2 : Int} (h1 : m1 = min a b) (h2 : m2 = max a b) (hr : addB ns ls a b = true) : addL ns ls a b = ls ++ [⟨m1, m2⟩] := by subst h1; subst h2; exact if_pos hr
theorem addL_no {ns ls : List Nd} {a b : Int} (hr : addB ns ls a b = false) : addL ns ls a b = ls := if_neg (by rw [hr]; exact Bool.false_ne_true)

theorem BlkN.frozen {b n : Nat} {T : TypeId} {W : World} (h : BlkN b T n W) (o : Nat) : W.frozen? ⟨b, o, none⟩ = false := by
  obtain ⟨cs, h, _⟩ := h
  simp [World.frozen?, h]
theorem BlkN.same {b n : Nat} {T : TypeId} {W W' : World} (h : BlkN b T n W) (e : W'.heap[b]? = W.heap[b]?) : BlkN b T n W' := by
  obtain ⟨cs, h, hs⟩ := h
  exact ⟨cs, e.trans h, hs⟩
theorem BlkN.step {b n : Nat} {T : TypeId} {W W' : World} (h : BlkN b T n W) (hb : Below W.heap.size W W') : BlkN b T n W' := stable_blkN b T n _ _ h hb
theorem BlkN.setFar {b n g o : Nat} {T : TypeId} {x : Value} {W : World} (h : BlkN b T n W) (hne : b ≠ g) : BlkN b T n (W.setCell ⟨g, o, none⟩ x) := h.same (Below.heap_setCell _ _ _ _ hne)


set_option maxRecDepth 100000 in
set_option maxHeartbeats 1000000 in
theorem specAdd (ns ls : List Nd) (vn vl : Value) (a b : Int) (w : World) (hn : Prs w vn ns) (hl : Prs w vl ls) (h1 : ns.length ≤ 1048576) (h2 : ls.length ≤ 1048576) :
    Calls Try.prog 39 #[.agg #[vn, vl], .int .i64 a, .int .i64 b] w (WinBIs ns (addL ns ls a b) (addB ns ls a b) w) := by
  have HN := Lib.hid hn
  have HL := Lib.hid hl
  obtain ⟨A, c, rfl⟩ := prs_form2 hn
  obtain ⟨A2, c2, rfl⟩ := prs_form2 hl
  clear hn hl
  obtain ⟨i1, hi0, hz0, hz1, hz2⟩ := info_parts infoLead
  have HF := Lib.hid (And.intro hi0 (And.intro hz0 (And.intro hz1 hz2))); clear hi0 hz0 hz1 hz2
  have H0 := Lib.hid (held_res w (.slice A ns.length c) (.slice A2 ls.length c2) 38 38)
  have B0 := Lib.hid (show BlkN (w.heap.size + 1) 38 2 ((w.alloc (.cells #[.slice A ns.length c, .slice A2 ls.length c2] 38)).alloc (.cells #[.slice none 0 0, .slice none 0 0] 38)) from ⟨_, hz2 _ _ _, rfl⟩)
  have HC := Lib.hid (fun w k1 k2 => l04Copy_any ns ls (.slice A ns.length c) (.slice A2 ls.length c2) w k1 k2 h1 h2)
  unfold CopyIs at HC
  have HW := Lib.hid (fun w k1 k2 => specWin ns ls (.slice A ns.length c) (.slice A2 ls.length c2) w k1 k2)
  have e1 := min_if a b
  have e2 := max_if a b
  have HY := Lib.hid (show ∀ r, r = addB ns ls a b → (r = true → addL ns ls a b = ls ++ [⟨min a b, max a b⟩]) ∧ (r = false → addL ns ls a b = ls) from fun r hr => ⟨fun h => addL_yes rfl rfl (by rw [← hr]; exact h), fun h => addL_no (by rw [← hr]; exact h)⟩)
  have HB := Lib.hid (show addB ns ls a b = (winB ns ls && winB ns (ls ++ [⟨min a b, max a b⟩])) from rfl)
  have HW2 := Lib.hid (fun v1 v2 w k1 k2 => specWin ns (ls ++ [⟨min a b, max a b⟩]) v1 v2 w k1 k2)
  generalize addL ns ls a b = rl at *
  generalize addB ns ls a b = r at *
  generalize min a b = m1 at *
  generalize max a b = m2 at *
  have HYE := Lib.hid (HY.out r rfl); clear HY
  obtain ⟨l2, hl2⟩ : ∃ l2, l2 = ls ++ [(⟨m1, m2⟩ : Nd)] := ⟨_, rfl⟩
  rw [← hl2] at HYE HW2 HB
  have HL2 := Lib.hid hl2; clear hl2
  generalize winB ns ls = d1 at *
  generalize winB ns l2 = d2 at *
  go_enter Try.func39, Try.ntmps39
  obtain ⟨x0, x1, x2, x3, _⟩ := H0.out.1
  go_wp2_with fail
  refine (HC.out _ (HN.out.step H0.out.below) (HL.out.step H0.out.below)).mono ?_
  rintro e w1 ⟨v1, v2, rfl, hm, hb⟩
  have H1 := Lib.hid (H0.out.step hb)
  have hs1 := hb.size
  have MO1 := Lib.hid (hm.mono (Lo' := w.heap.size + 2) (by simp))
  rw [show ((w.alloc (.cells #[.slice A ns.length c, .slice A2 ls.length c2] 38)).alloc (.cells #[.slice none 0 0, .slice none 0 0] 38)).heap.size = w.heap.size + 2 by simp] at hs1
  have OB := Lib.hid MO1.out.own
  have B1 := Lib.hid (B0.out.step hb)
  clear hm hb x0 x1 x2 x3
  obtain ⟨a1, c1, rfl, -⟩ := MO1.out.1.form
  obtain ⟨a2, c2', rfl, -⟩ := MO1.out.2.form
  have bb : Below w1.heap.size w1 (w1.alloc (.cells #[.slice a1 ns.length c1, .slice a2 ls.length c2'] 38)) := (Below.refl _ _).alloc (Nat.le_refl _) _
  have H2 := Lib.hid (H1.out.new2 w1.heap.size rfl [.slice a1 ns.length c1, .slice a2 ls.length c2'] 38)
  have MO2 := Lib.hid (MO1.out.step bb)
  have H3 := Lib.hid (H2.out.new2 (w1.heap.size + 1) (by simp) [.int .i64 m1, .int .i64 m2] 57)
  have MO3 := Lib.hid (MO2.out.step ((Below.refl _ _).alloc (Nat.le_refl _) (.cells #[.int .i64 m1, .int .i64 m2] 57)))
  have X3 := Lib.hid (((Below.refl _ _).alloc (Nat.le_refl _) (.cells #[.int .i64 m1, .int .i64 m2] 57)).block w1.heap.size (by simp) |>.trans (heap_alloc_new w1 (.cells #[.slice a1 ns.length c1, .slice a2 ls.length c2'] 38)))
  have B3 := Lib.hid ((B1.out.step bb).step ((Below.refl _ _).alloc (Nat.le_refl _) (.cells #[.int .i64 m1, .int .i64 m2] 57)))
  clear bb MO1 MO2 B1
  obtain ⟨x0, x1, x2, x3, x4, x5, _⟩ := H2.out.1
  have AP := Lib.hid (MO3.out.1.apart MO3.out.2 node_lead)
  obtain ⟨hi, hz0, hz1, hz2⟩ := HF.out
  go_wp2_with (at_builtin; refine wpList_append_pair rfl _ _ 36 rfl (y := ⟨m1, m2⟩) Try.underlying36 hi hz0 hz1 hz2 (by rfl) MO3.out.2 rfl rfl (pair_news H3.out.1.1 H3.out.1.2.1) (by omega) (by simp; omega) ?_)
  intro v' w4 hown hgrow hfresh
  rw [← HL2.out] at hown
  have X4 := (hgrow.block w1.heap.size (by simp; omega) (fun e => by have := OB.out _ (.inr e.symm); omega)).trans X3.out
  have f1 : w4.frozen? ⟨w1.heap.size, 1, none⟩ = false := by simp [World.frozen?, X4]
  have H4 := Lib.hid ((H3.out.grown hgrow ⟨fun e => by have := OB.out _ (.inr e); omega, fun e => by have := OB.out _ (.inr e); omega, fun e => by have := OB.out _ (.inr e); omega, fun e => by have := OB.out _ (.inr e); omega, fun e => by have := OB.out _ (.inr e); omega, fun e => by have := OB.out _ (.inr e); omega, fun e => by have := OB.out _ (.inr e); omega, fun e => by have := OB.out _ (.inr e); omega, trivial⟩ (fun k e => by have := OB.out _ (.inr e); omega)).only (fun h => h.2.2) (fun h => h.2.2))
  have MN4 := Lib.hid (MO3.out.1.keep fun k e => hgrow.block k (MO3.out.1.own k e).2 (fun e2 => AP.out k e e2.symm))
  have MV4 := Lib.hid hown
  have hvb : v'.ownBlock ≠ some w1.heap.size := by
    intro e
    rcases hfresh with e2 | e2
    · rw [e2] at e; have := OB.out _ (.inr e); omega
    · rw [e2] at e; simp at e <;> omega
  have hv1 : (Value.slice a1 ns.length c1).ownBlock ≠ some w1.heap.size := fun e => by have := OB.out _ (.inl e); omega
  have hgs := hgrow.size
  have MW5 := Lib.hid (show WinO (w4.setCell ⟨w1.heap.size, 1, none⟩ v') (w.heap.size + 2) (.slice a1 ns.length c1) v' ns l2 from ⟨MN4.out.setFar hv1, MV4.out.setFar hvb⟩)
  have B5 := Lib.hid ((B3.out.same (hgrow.block (w.heap.size + 1) (by simp; omega) (fun e => by have := OB.out _ (.inr e.symm); omega))).setFar (g := w1.heap.size) (o := 1) (x := v') (by omega))
  have H5 := Lib.hid (H4.out.put1 (z := v') ⟨by omega, by omega, by omega, by omega, trivial⟩ (by omega))
  clear hown hgrow hfresh hvb hv1 x0 x1 x2 x3 x4 x5 hi hz0 hz1 hz2
  obtain ⟨aV, cV, rfl, -⟩ := MV4.out.form
  clear MN4 MV4 X4
  have z1 := H4.out.1.2.1
  obtain ⟨x0, x1, x2, x3, x4, x5, _⟩ := H5.out.1
  go_wp2_with fail
  refine (HW.out _ (HN.out.step H5.out.below) (HL.out.step H5.out.below)).mono ?_
  rintro e w6 ⟨rfl, hb⟩
  have H6 := Lib.hid (H5.out.step hb)
  have MW6 := Lib.hid (MW5.out.step hb)
  have B6 := Lib.hid (B5.out.step hb)
  clear hb x0 x1 x2 x3 x4 x5 z1 f1
  obtain ⟨x0, x1, x2, x3, x4, x5, _⟩ := H6.out.1
  cases d1
  · obtain rfl : r = false := by rw [HB.out]; rfl
    have HX := H6
    have BX := B6
    go_wp2_with fail
    refine (HC.out _ (HN.out.step HX.out.below) (HL.out.step HX.out.below)).mono ?_
    rintro e w8 ⟨u1, u2, rfl, hm, hb⟩
    have hb6 := HX.out.2.1.1
    have H8 := Lib.hid (HX.out.step hb)
    have f0 := (BX.out.step hb).frozen 0
    have f1 := (BX.out.step hb).frozen 1
    have OU := Lib.hid hm.own
    have MU := Lib.hid hm
    clear hm hb x0 x1 x2 x3 x4 x5
    obtain ⟨aU, cU, rfl, -⟩ := MU.out.1.form
    obtain ⟨aU', cU', rfl, -⟩ := MU.out.2.form
    have MZ := Lib.hid (((MU.out.setFar (b := w.heap.size + 1) (o := 0) (x := .slice aU ns.length cU) (fun e => by have := OU.out _ (.inl e); omega) (fun e => by have := OU.out _ (.inr e); omega)).setFar (b := w.heap.size + 1) (o := 1) (x := .slice aU' ls.length cU') (fun e => by have := OU.out _ (.inl e); omega) (fun e => by have := OU.out _ (.inr e); omega)).mono (Lo' := w.heap.size) (by omega))
    have HZ := Lib.hid ((H8.out.only (fun h => h.2.2) (fun h => h.2.2)).put2 (x' := .slice aU ns.length cU) (z := .slice aU' ls.length cU') ⟨by omega, by omega, trivial⟩ (by omega))
    have x2 := H8.out.1.2.2.1
    have x3 := H8.out.1.2.2.2.1
    go_wp2_with fail
    have y0 := HZ.out.1.1
    have y1 := HZ.out.1.2.1
    refine bodyPost_ret (v := .tuple #[.agg #[.slice aU ns.length cU, .slice aU' ls.length cU'], .bool false]) (by simp [results, Try.results39, go_sem, y0, y1]) rfl ?_
    exact ⟨_, _, rfl, by rw [HYE.out.2 trivial]; exact MZ.out, HZ.out.below⟩
  · go_wp2_with fail
    refine (HW2.out _ _ _ MW6.out.1.prs MW6.out.2.prs).mono ?_
    rintro e w7 ⟨rfl, hb⟩
    have HX := Lib.hid (H6.out.step hb)
    have MW7 := Lib.hid (MW6.out.step hb)
    have BX := Lib.hid (B6.out.step hb)
    have OW := Lib.hid MW7.out.own
    clear hb x0 x1 x2 x3 x4 x5
    obtain ⟨x0, x1, x2, x3, x4, x5, _⟩ := HX.out.1
    cases d2
    · obtain rfl : r = false := by rw [HB.out]; rfl
      go_wp2_with fail
      refine (HC.out _ (HN.out.step HX.out.below) (HL.out.step HX.out.below)).mono ?_
      rintro e w8 ⟨u1, u2, rfl, hm, hb⟩
      have hb6 := HX.out.2.1.1
      have H8 := Lib.hid (HX.out.step hb)
      have f0 := (BX.out.step hb).frozen 0
      have f1 := (BX.out.step hb).frozen 1
      have OU := Lib.hid hm.own
      have MU := Lib.hid hm
      clear hm hb x0 x1 x2 x3 x4 x5
      obtain ⟨aU, cU, rfl, -⟩ := MU.out.1.form
      obtain ⟨aU', cU', rfl, -⟩ := MU.out.2.form
      have MZ := Lib.hid (((MU.out.setFar (b := w.heap.size + 1) (o := 0) (x := .slice aU ns.length cU) (fun e => by have := OU.out _ (.inl e); omega) (fun e => by have := OU.out _ (.inr e); omega)).setFar (b := w.heap.size + 1) (o := 1) (x := .slice aU' ls.length cU') (fun e => by have := OU.out _ (.inl e); omega) (fun e => by have := OU.out _ (.inr e); omega)).mono (Lo' := w.heap.size) (by omega))
      have HZ := Lib.hid ((H8.out.only (fun h => h.2.2) (fun h => h.2.2)).put2 (x' := .slice aU ns.length cU) (z := .slice aU' ls.length cU') ⟨by omega, by omega, trivial⟩ (by omega))
      have x2 := H8.out.1.2.2.1
      have x3 := H8.out.1.2.2.2.1
      go_wp2_with fail
      have y0 := HZ.out.1.1
      have y1 := HZ.out.1.2.1
      refine bodyPost_ret (v := .tuple #[.agg #[.slice aU ns.length cU, .slice aU' ls.length cU'], .bool false]) (by simp [results, Try.results39, go_sem, y0, y1]) rfl ?_
      exact ⟨_, _, rfl, by rw [HYE.out.2 trivial]; exact MZ.out, HZ.out.below⟩
    · obtain rfl : r = true := by rw [HB.out]; rfl
      have f0 := BX.out.frozen 0
      have f1 := BX.out.frozen 1
      have MZ := Lib.hid (((MW7.out.setFar (b := w.heap.size + 1) (o := 0) (x := .slice a1 ns.length c1) (fun e => by have := OW.out _ (.inl e); omega) (fun e => by have := OW.out _ (.inr e); omega)).setFar (b := w.heap.size + 1) (o := 1) (x := .slice aV l2.length cV) (fun e => by have := OW.out _ (.inl e); omega) (fun e => by have := OW.out _ (.inr e); omega)).mono (Lo' := w.heap.size) (by omega))
      have HZ := Lib.hid ((HX.out.only (fun h => h.2.2) (fun h => h.2.2)).put2 (x' := .slice a1 ns.length c1) (z := .slice aV l2.length cV) ⟨by omega, by omega, trivial⟩ (by omega))
      go_wp2_with fail
      have y0 := HZ.out.1.1
      have y1 := HZ.out.1.2.1
      refine bodyPost_ret (v := .tuple #[.agg #[.slice a1 ns.length c1, .slice aV l2.length cV], .bool true]) (by simp [results, Try.results39, go_sem, y0, y1]) rfl ?_
      exact ⟨_, _, rfl, by rw [HYE.out.1 trivial]; exact MZ.out, HZ.out.below⟩
end Go.Proofs.Ytkkjcdilpbofmaa
