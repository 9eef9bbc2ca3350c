/-
  Whether deposits are in order, of the program and of the model.
-/
import Derived.Test.YtfckgidilbjokacTrL
import Derived.Maps.OwnSet
import Derived.Maps.OwnOps
import Derived.Maps.Views
namespace Go.Proofs.Ytfckgidilbjokac
open Go.RowKit Go.Maps
set_option linter.unusedVariables false
set_option linter.unusedSimpArgs false

def depB (t : Tr) : Bool := triB 1 200 1 50 0 9999 t
/-- The first k deposits: each is right, the days go up, no place twice. -/
def DepUp (xs : List Tr) (k : Nat) : Prop := (∀ j, j < k → depB (atT xs j) = true) ∧ ∀ j, j + 1 < k → (atT xs j).z ≤ (atT xs (j + 1)).z
def DepNew (xs : List Tr) (k : Nat) : Prop := ∀ i j, i < j → j < k → (atT xs i).x ≠ (atT xs j).x
def DepsOk (xs : List Tr) : Prop := xs.length ≤ 40 ∧ DepUp xs xs.length ∧ DepNew xs xs.length
open Classical in
noncomputable def depsB (xs : List Tr) : Bool := decide (DepsOk xs)
theorem depsB_iff (xs : List Tr) : depsB xs = true ↔ DepsOk xs := by unfold depsB; simp
theorem depsB_no {xs : List Tr} (h : ¬ DepsOk xs) : depsB xs = false := by
  cases e : depsB xs
  · rfl
  · exact absurd ((depsB_iff xs).1 e) h
theorem depsB_yes {xs : List Tr} (h : DepsOk xs) : depsB xs = true := (depsB_iff xs).2 h
def dayL (xs : List Tr) : Nat → Int
  | 0 => 0
  | k + 1 => (atT xs k).z
theorem DepUp.zero (xs : List Tr) : DepUp xs 0 := ⟨fun j hj => by omega, fun j hj => by omega⟩
theorem DepUp.succ {xs : List Tr} {k : Nat} (h : DepUp xs k) (hb : depB (atT xs k) = true) (hd : dayL xs k ≤ (atT xs k).z) : DepUp xs (k + 1) := by
  refine ⟨fun j hj => ?_, fun j hj => ?_⟩
  · by_cases e : j = k
    · rw [e]; exact hb
    · exact h.1 j (by omega)
  · by_cases e : j + 1 = k
    · subst e; exact hd
    · exact h.2 j (by omega)
theorem depB_iff (t : Tr) : depB t = true ↔ (1 ≤ t.x ∧ t.x ≤ 200) ∧ (1 ≤ t.y ∧ t.y ≤ 50) ∧ (0 ≤ t.z ∧ t.z ≤ 9999) := triB_iff _ _ _ _ _ _ t
theorem deps_bad {xs : List Tr} {k : Nat} (hk : k < xs.length) (h : depB (atT xs k) = false) : depsB xs = false := depsB_no fun H => by
  rw [H.2.1.1 k hk] at h
  cases h
theorem deps_late {xs : List Tr} {k : Nat} (hk : k < xs.length) (hb : depB (atT xs k) = true) (h : (atT xs k).z < dayL xs k) : depsB xs = false := depsB_no fun H => by
  cases k with
  | zero =>
    have := ((depB_iff _).1 hb).2.2.1
    simp only [dayL] at h
    omega
  | succ j =>
    have := H.2.1.2 j hk
    simp only [dayL] at h
    omega
theorem deps_twice {xs : List Tr} {i k : Nat} (hk : k < xs.length) (hi : i < k) (h : (atT xs i).x = (atT xs k).x) : depsB xs = false := depsB_no fun H => H.2.2 i k hi hk h
theorem deps_many {xs : List Tr} (h : 40 < xs.length) : depsB xs = false := depsB_no fun H => by have := H.1; omega
theorem DepNew.zero (xs : List Tr) : DepNew xs 0 := fun i j _ hj => by omega
theorem DepNew.succ {xs : List Tr} {k : Nat} (h : DepNew xs k) (hn : ∀ i, i < k → (atT xs i).x ≠ (atT xs k).x) : DepNew xs (k + 1) := fun i j hi hj => by
  by_cases e : j = k
  · subst e; exact hn i hi
  · exact h i j hi (by omega)

/-- The map of the places: an element reads as nothing. -/
def heldU (v : Value) : Option (DataW Unit × List MemPlace) := some (.lit (.bool true), [])
def keyP (xs : List Tr) (k : Nat) : Lit := .int .i64 (atT xs k).x
def keysP (xs : List Tr) (k : Nat) : List Lit := (xs.take k).map fun t => .int .i64 t.x
def SnP (xs : List Tr) (k : Nat) : DataW Unit := setOf (.lit (.bool true)) (keysP xs k)
theorem SnP_zero (xs : List Tr) : SnP xs 0 = .map [] := by simp [SnP, keysP, setOf]
theorem keysP_succ {xs : List Tr} {k : Nat} (hk : k < xs.length) : keysP xs (k + 1) = keysP xs k ++ [keyP xs k] := by
  unfold keysP keyP
  rw [takeTr hk, List.map_append]
  rfl
theorem SnP_succ {xs : List Tr} {k : Nat} (hk : k < xs.length) : SnP xs (k + 1) = (SnP xs k).put (keyP xs k) (.lit (.bool true)) := by
  unfold SnP
  rw [keysP_succ hk, setOf_snoc]
theorem keysP_lit (xs : List Tr) (k : Nat) : ∀ x ∈ keysP xs k, WideAt.IsKeyLit x := by
  intro x hx
  unfold keysP at hx
  obtain ⟨t, _, rfl⟩ := List.mem_map.1 hx
  trivial
theorem hasP {xs : List Tr} {k : Nat} (hk : k < xs.length) : Maps.has (SnP xs k) (keyP xs k) = true ↔ ∃ i, i < k ∧ (atT xs i).x = (atT xs k).x := by
  unfold SnP
  rw [has_setOf _ _ _ (keysP_lit xs k), List.any_eq_true]
  constructor
  · rintro ⟨l, hl, he⟩
    unfold keysP at hl
    obtain ⟨t, ht, rfl⟩ := List.mem_map.1 hl
    obtain ⟨i, hi, rfl⟩ := List.getElem_of_mem ht
    have hi2 : i < k := by simp at hi; omega
    refine ⟨i, hi2, ?_⟩
    rw [List.getElem_take, atT_get (by omega)] at he
    refine Classical.byContradiction fun hne => ?_
    rw [sameKey_ne (fun e => hne (by unfold keyP at e; injection e))] at he
    cases he
  · rintro ⟨i, hi, e⟩
    refine ⟨.int .i64 (atT xs i).x, ?_, ?_⟩
    · unfold keysP
      refine List.mem_map.2 ⟨atT xs i, ?_, rfl⟩
      rw [← atT_get (show i < xs.length by omega)]
      have h2 : i < (xs.take k).length := by simp; omega
      have := List.getElem_mem h2
      rwa [List.getElem_take] at this
    · rw [e]
      simp [keyP, Lit.sameKey]
theorem sizeP (xs : List Tr) : ∀ k, k ≤ xs.length → Maps.size (SnP xs k) ≤ k ∧ (Maps.size (SnP xs k) = k ↔ DepNew xs k)
  | 0, _ => by rw [SnP_zero]; exact ⟨Nat.le_refl _, fun _ => DepNew.zero xs, fun _ => rfl⟩
  | k + 1, h => by
    obtain ⟨ih1, ih2⟩ := sizeP xs k (by omega)
    have ht := tidy_setOf (.lit (.bool true) : DataW Unit) (keysP xs k) (keysP_lit xs k)
    have hs : Maps.size (SnP xs (k + 1)) = if Maps.has (SnP xs k) (keyP xs k) then Maps.size (SnP xs k) else Maps.size (SnP xs k) + 1 := by
      rw [SnP_succ (by omega)]
      exact size_put ht _
    have hh := hasP (xs := xs) (k := k) (by omega)
    by_cases e : Maps.has (SnP xs k) (keyP xs k) = true
    · rw [hs, if_pos e]
      refine ⟨by omega, fun h2 => by omega, fun h2 => ?_⟩
      obtain ⟨i, hi, e2⟩ := hh.1 e
      exact absurd e2 (h2 i k hi (by omega))
    · rw [hs, if_neg e]
      refine ⟨by omega, fun h2 => ?_, fun h2 => ?_⟩
      · exact DepNew.succ (ih2.1 (by omega)) fun i hi e2 => e (hh.2 ⟨i, hi, e2⟩)
      · have := ih2.2 fun i j hi hj => h2 i j hi (by omega)
        omega
theorem deps_end {xs : List Tr} (hl : xs.length ≤ 40) (hu : DepUp xs xs.length) : depsB xs = decide ((Maps.size (SnP xs xs.length) : Int) = (xs.length : Int)) := by
  have := (sizeP xs xs.length (Nat.le_refl _)).2
  rw [Bool.eq_iff_iff, depsB_iff]
  simp only [decide_eq_true_eq]
  constructor
  · intro H
    have := this.2 H.2.2
    omega
  · intro H
    exact ⟨hl, hu, this.1 (by omega)⟩
theorem keyLaw : Keyed Try.prog 3 := int_keyed Try.underlying3

theorem ownsMap_kept2 {w w' : World} {b n : Nat} {D : DataW Unit} (h : w.ownsMap Try.prog 3 heldU b n D) (hb : Below w.heap.size w w') : w'.ownsMap Try.prog 3 heldU b n D := by
  have hlt := h.lt
  obtain ⟨es, clock, he, r⟩ := h
  exact ⟨es, clock, (hb.block b hlt).trans he, r⟩

theorem cell_kept {w3 w4 : World} {b g o : Nat} {x : Value} (hg : w3.grownBy w4 (some g)) (hne : b ≠ g) (hlt : b < w3.heap.size) (h : w3.cell? ⟨b, o, none⟩ = some x) : w4.cell? ⟨b, o, none⟩ = some x := by
  have e : w4.heap[b]? = w3.heap[b]? := hg.block b hlt (fun e => hne (by injection e))
  simpa [World.cell?, e] using h

theorem Held.withCell {w W : World} {fs : List (Nat × Nat × Value)} {b o : Nat} {x : Value} (h : Held w W fs) (hb : b < W.heap.size) (hc : W.cell? ⟨b, o, none⟩ = some x) : Held w W ((b, o, x) :: fs) := ⟨⟨hc, h.1⟩, ⟨hb, h.2.1⟩, h.2.2⟩
theorem Held.rebase {w W w1 : World} {fs : List (Nat × Nat × Value)} (hb : Below w.heap.size w W) (hs : w.heap.size ≤ W.heap.size) (h : Held W w1 fs) : Held w w1 fs := ⟨h.1, h.2.1, hb.trans (h.2.2.mono hs)⟩
theorem implDep (f : Tr) (w : World) :
    Calls Try.prog 100 #[f.val] w (BoolIs (depB f) w) := by
  obtain ⟨x, y, z⟩ := f
  have hr : depB ⟨x, y, z⟩ = decide ((1 ≤ x ∧ x ≤ 200) ∧ (1 ≤ y ∧ y ≤ 50) ∧ (0 ≤ z ∧ z ≤ 9999)) := by rw [Bool.eq_iff_iff, depB_iff]; simp
  unfold Tr.val
  generalize depB ⟨x, y, z⟩ = r at *
  have HR := Lib.hid hr; clear hr
  go_enter Try.func100, Try.ntmps100
  go_wp2
  all_goals
    go_ret
    exact ⟨ret_bool (by rw [HR.out, Bool.eq_iff_iff]; simp; omega), (Below.refl _ _).alloc (Nat.le_refl _) _⟩

set_option maxRecDepth 100000 in
set_option maxHeartbeats 4000000 in
theorem implDeposits (xs : List Tr) (v : Value) (w : World) (hv : Trs w v xs) : Calls Try.prog 48 #[v] w (BoolIs (depsB xs) w) := by
  have HV := Lib.hid hv
  have hlen := hv.len
  obtain ⟨A, c, rfl⟩ := hv.form2
  clear hv
  have HBAD := Lib.hid (fun k (hk : k < xs.length) h => deps_bad hk h)
  have HLATE := Lib.hid (fun k (hk : k < xs.length) h1 h2 => deps_late hk h1 h2)
  have HMANY := Lib.hid (fun h => deps_many (xs := xs) h)
  have HEND := Lib.hid (fun h1 h2 => deps_end (xs := xs) h1 h2)
  generalize depsB xs = r at *
  go_enter Try.func48, Try.ntmps48
  by_cases hbig : 40 < xs.length
  · go_wp2_with fail
    go_ret
    exact ⟨ret_bool (HMANY.out hbig).symm, Below.refl _ _⟩
  have hl40 : xs.length ≤ 40 := by omega
  have hmm := @run_makeMap Try.prog
  go_wp2_with fail
  clear hmm
  go_loopw [4, 13] (fun d i wr => ∃ k : Nat, k ≤ xs.length ∧ i = .int .i64 k ∧ d = .int .i64 (dayL xs k) ∧ DepUp xs k ∧ wr.ownsMap Try.prog 3 heldU w.heap.size k (SnP xs k) ∧ Below w.heap.size w wr) (fun _ i _ => xs.length - (intOf i).toNat)
  case atStart => exact ⟨0, Nat.zero_le _, rfl, rfl, DepUp.zero xs, by rw [SnP_zero]; exact World.ownsMap_made _ _ _ _, (Below.refl _ _).alloc (Nat.le_refl _) _⟩
  case round =>
    obtain ⟨k, hk, rfl, rfl, hu, hm, hb⟩ := hrel
    have HU := Lib.hid hu; clear hu
    have HM := Lib.hid hm; clear hm
    have HB := Lib.hid hb; clear hb
    have hsz := HB.out.size
    by_cases hlt : k < xs.length
    · obtain ⟨_, _, he, _, _, hcs⟩ := (HV.out.step HB.out).form
      injection he with he1 he2 he3
      obtain ⟨b, o, hA, hbl, hc0, hc1, hc2⟩ := hcs k hlt
      rw [← he1] at hA
      subst hA
      clear he1 he2 he3 hcs
      have HS := Lib.hid (implDep (atT xs k))
      have HN := Lib.hid (HBAD.out k hlt)
      have HL := Lib.hid (HLATE.out k hlt)
      have HUS := Lib.hid (fun h1 h2 => HU.out.succ (k := k) h1 h2)
      have HSN := Lib.hid (SnP_succ hlt)
      have HKY := Lib.hid (show keyP xs k = .int .i64 (atT xs k).x from rfl)
      have HDB := Lib.hid (depB_iff (atT xs k))
      have HDY := Lib.hid (show dayL xs (k + 1) = (atT xs k).z from rfl)
      have hz1 : (k : Int) < (xs.length : Int) := by omega
      have hz2 : (0 : Int) ≤ k := by omega
      generalize depB (atT xs k) = d at *
      generalize keyP xs k = ky at *
      generalize dayL xs k = dy at *
      generalize atT xs k = t at *
      obtain ⟨x, y, z⟩ := t
      unfold Tr.val at HS
      simp only at HS hc0 hc1 hc2 HDB HDY HKY HL HUS
      have H2 := Lib.hid ((Held.none_ wr).new2 wr.heap.size rfl [.int .i64 x, .int .i64 y, .int .i64 z] 80)
      simp only [newFs, List.cons_append, List.nil_append, List.append_nil] at H2
      cases d
      · obtain ⟨x0, x1, x2, _⟩ := H2.out.1
        go_wp2_with fail
        refine (HS.out _).mono ?_
        rintro e wH3 ⟨rfl, hb⟩
        have H3 := Lib.hid ((H2.out).step hb); clear hb
        try clear x0 x1 x2
        obtain ⟨x0, x1, x2, _⟩ := H3.out.1
        go_wp2_with fail
        go_ret
        exact ⟨ret_bool (HN.out trivial).symm, HB.out.trans (H3.out.below.mono hsz)⟩
      · obtain ⟨⟨p1, p2⟩, _, p5, p6⟩ := HDB.out.1 rfl
        by_cases hday : z < dy
        · replace HL := Lib.hid (HL.out (by trivial) hday)
          obtain ⟨x0, x1, x2, _⟩ := H2.out.1
          go_wp2_with fail
          refine (HS.out _).mono ?_
          rintro e wH3 ⟨rfl, hb⟩
          have H3 := Lib.hid ((H2.out).step hb); clear hb
          try clear x0 x1 x2
          obtain ⟨x0, x1, x2, _⟩ := H3.out.1
          go_wp2_with fail
          go_ret
          exact ⟨ret_bool HL.out.symm, HB.out.trans (H3.out.below.mono hsz)⟩
        · have HUX := Lib.hid (HUS.out (by trivial) (by omega))
          obtain ⟨x0, x1, x2, _⟩ := H2.out.1
          go_wp2_with fail
          refine (HS.out _).mono ?_
          rintro e w3 ⟨rfl, hb3⟩
          have H3 := Lib.hid (H2.out.step hb3); clear hb3
          have HB3 := Lib.hid (HB.out.trans (H3.out.below.mono hsz))
          have HM3 := Lib.hid (ownsMap_kept2 HM.out H3.out.below)
          clear x0 x1 x2
          obtain ⟨x0, x1, x2, _⟩ := H3.out.1
          have HNE := Lib.hid (show wr.heap.size ≠ w.heap.size from fun e => by have := HM.out.lt; omega)
          have HLT := Lib.hid (H3.out.2.1.1)
          have hky : keyOf Try.prog 3 (.int .i64 x) = some ky := by rw [HKY.out]; exact keyOf_int_mk Try.underlying3 (WalkArith.wf_i64 (by omega))
          go_wp2_with (at_mapUpdate; refine wpList_mapUpdate_own _ rfl _ _ _ 134 rfl 3 80 keyLaw Try.underlying134 heldU w.heap.size k _ rfl HM3.out (by unfold maxLen; omega) _ _ ky rfl rfl hky (.lit (.bool true)) [] rfl ?_; intro w4 hmap hg4; have x2' := cell_kept hg4 HNE.out HLT.out x2)
          clear x0 x1 x2
          refine ⟨⟨k + 1, by omega, by go_num, by rw [HDY.out], HUX.out, by rw [HSN.out]; exact hmap, HB3.out.grown hg4 HB3.out.size (fun j hj => by cases hj; exact Nat.le_refl _)⟩, by simp [intOf]; omega⟩
    · obtain rfl : k = xs.length := by omega
      have HE := Lib.hid (HEND.out hl40 HU.out)
      have hmo := HM.out
      go_wp2_with (at_len; refine wpList_len_own _ rfl _ 134 rfl 3 80 Try.underlying134 heldU w.heap.size xs.length _ rfl hmo ?_)
      go_ret
      exact ⟨ret_bool HE.out.symm, HB.out⟩

theorem deps_end2 {xs : List Tr} (hu : DepUp xs xs.length) (hn : DepNew xs xs.length) : depsB xs = decide ((xs.length : Int) ≤ 40) := by
  rw [Bool.eq_iff_iff, depsB_iff]
  simp only [decide_eq_true_eq]
  exact ⟨fun H => by have := H.1; omega, fun H => ⟨by omega, hu, hn⟩⟩

set_option maxRecDepth 100000 in
set_option maxHeartbeats 4000000 in
theorem specDeposits (xs : List Tr) (v : Value) (w : World) (hv : Trs w v xs) : Calls Try.prog 46 #[v] w (BoolIs (depsB xs) w) := by
  have HV := Lib.hid hv
  have hlen := hv.len
  obtain ⟨A, c, rfl⟩ := hv.form2
  clear hv
  have HBAD := Lib.hid (fun k (hk : k < xs.length) h => deps_bad hk h)
  have HLATE := Lib.hid (fun k (hk : k < xs.length) h1 h2 => deps_late hk h1 h2)
  have HTWI := Lib.hid (fun i k (hk : k < xs.length) (hi : i < k) h => deps_twice hk hi h)
  have HEND := Lib.hid (fun h1 h2 => deps_end2 (xs := xs) h1 h2)
  generalize depsB xs = r at *
  go_enter Try.func46, Try.ntmps46
  go_wp2_with fail
  go_loopw [3] (fun i wr => ∃ k : Nat, k ≤ xs.length ∧ i = .int .i64 k ∧ DepUp xs k ∧ DepNew xs k ∧ Below w.heap.size w wr) (fun i _ => xs.length - (intOf i).toNat)
  case atStart => exact ⟨0, Nat.zero_le _, rfl, DepUp.zero xs, DepNew.zero xs, Below.refl _ _⟩
  case round =>
    obtain ⟨k, hk, rfl, hu, hn, hb⟩ := hrel
    have HU := Lib.hid hu; clear hu
    have HNW := Lib.hid hn; clear hn
    have HBW := Lib.hid hb; clear hb
    have hsz := HBW.out.size
    by_cases hlt : k < xs.length
    · obtain ⟨_, _, he, _, _, hcs⟩ := (HV.out.step HBW.out).form
      injection he with he1 he2 he3
      obtain ⟨b, o, hA, hbl, hc0, hc1, hc2⟩ := hcs k hlt
      rw [← he1] at hA
      subst hA
      clear he1 he2 he3 hcs
      have HA := Lib.hid (fun w => specInB (atT xs k).x 1 200 w)
      have HB := Lib.hid (fun w => specInB (atT xs k).y 1 50 w)
      have HC := Lib.hid (fun w => specInB (atT xs k).z 0 9999 w)
      have HDB := Lib.hid (show depB (atT xs k) = (inB (atT xs k).x 1 200 && inB (atT xs k).y 1 50 && inB (atT xs k).z 0 9999) from rfl)
      have HN := Lib.hid (HBAD.out k hlt)
      have HL := Lib.hid (HLATE.out k hlt)
      have HUS := Lib.hid (fun h1 h2 => HU.out.succ (k := k) h1 h2)
      have HNS := Lib.hid (fun h => HNW.out.succ (k := k) h)
      have HTWICE := Lib.hid (fun i (hi : i < k) h => HTWI.out i k hlt hi h)
      have HDL := Lib.hid (show ∀ m, m + 1 = k → dayL xs k = (atT xs m).z from fun m e => by subst e; rfl)
      have HD0 := Lib.hid (show k = 0 → dayL xs k = 0 from fun e => by subst e; rfl)
      have HZB := Lib.hid (show inB (atT xs k).z 0 9999 = true → 0 ≤ (atT xs k).z from fun h => ((inB_iff _ _ _).1 h).1)
      have hz1 : (k : Int) < (xs.length : Int) := by omega
      have hz2 : (0 : Int) ≤ k := by omega
      generalize inB (atT xs k).x 1 200 = b1 at *
      generalize inB (atT xs k).y 1 50 = b2 at *
      generalize inB (atT xs k).z 0 9999 = b3 at *
      generalize depB (atT xs k) = d at *
      generalize dayL xs k = dy at *
      obtain ⟨t, ht⟩ : ∃ t, t = atT xs k := ⟨_, rfl⟩
      rw [← ht] at HA HB HC HL HUS HNS HTWICE HZB hc0 hc1 hc2
      clear ht
      obtain ⟨x, y, z⟩ := t
      simp only at HA HB HC HL HUS HNS HTWICE HZB hc0 hc1 hc2
      by_cases hbad : (b1 && b2 && b3) = false
      · have HN := Lib.hid (HN.out (HDB.out.trans hbad))
        have H2 := Lib.hid ((Held.none_ wr).new2 wr.heap.size rfl [.int .i64 x, .int .i64 y, .int .i64 z] 80)
        simp only [newFs, List.cons_append, List.nil_append, List.append_nil] at H2
        clear HL HUS HNS HTWICE HZB HDL HD0 HDB
        have HBF := Lib.hid hbad; clear hbad
        cases b1 <;> cases b2 <;> cases b3
        all_goals first | (exact absurd HBF.out (by decide)) | skip
        all_goals
          clear HBF
          go_wp2_with fail
          refine regionD (S := fun W => Held _ W [(wr.heap.size, 0, .int .i64 (x)), (wr.heap.size, 1, .int .i64 (y)), (wr.heap.size, 2, .int .i64 (z))]) (by kernel_rfl) H2.out.drew ?_
          iterate 31 (refine takeT (v := ?_) rfl (by kernel_rfl) (by kernel_rfl) (by kernel_rfl) ?_ ?_; rotate_left; (first | (refine Or.inr ⟨by rfl, ?_⟩; with_reducible rfl) | (refine Or.inl ⟨by rfl, fun W hS => detRes_value (w' := W) ?_ hS⟩; obtain ⟨x0, x1, x2, _⟩ := hS.1; go_simp; first | done | with_reducible rfl) | (refine Or.inl ⟨by rfl, fun W hS => ?_⟩; refine detRes_call (w' := W) (f := ?_) (args := ?_) ?_ ?_; rotate_left 2; (go_simp; (refine ⟨?_, ?_⟩ <;> with_reducible rfl)); (first | (with_reducible refine (HA.out _).mono ?_) | (with_reducible refine (HB.out _).mono ?_) | (with_reducible refine (HC.out _).mono ?_) | fail); (first | (rintro e wn ⟨rfl, hb⟩; refine ⟨?_, hS.step hb⟩; with_reducible rfl) | (rintro e wn ⟨rfl, rfl⟩; refine ⟨?_, hS⟩; with_reducible rfl) | fail)) | fail); (simp only [Act.put, List.setIfInBounds_toArray, List.set_cons_zero, List.set_cons_succ]))
          refine doneD (by kernel_rfl) fun wH3 HS => ?_
          have H3 := Lib.hid HS; clear HS
          try clear x0 x1 x2
          obtain ⟨x0, x1, x2, _⟩ := H3.out.1
          go_wp2_with fail
          go_ret
          exact ⟨ret_bool HN.out.symm, HBW.out.trans (H3.out.below.mono hsz)⟩
      · obtain ⟨rfl, rfl, rfl⟩ : b1 = true ∧ b2 = true ∧ b3 = true := by simpa using hbad
        clear hbad
        have hd : d = true := HDB.out
        subst hd
        have hzz := HZB.out (by trivial)
        clear HDB HZB HN
        by_cases hk0 : k = 0
        · have hdy := HD0.out hk0
          have HUX := Lib.hid (HUS.out (by trivial) (by omega))
          clear HL HUS HDL HD0 hdy
          have H2 := Lib.hid ((Held.none_ wr).new2 wr.heap.size rfl [.int .i64 x, .int .i64 y, .int .i64 z] 80)
          simp only [newFs, List.cons_append, List.nil_append, List.append_nil] at H2
          have HK0 := Lib.hid hk0; clear hk0
          go_wp2_with fail
          obtain ⟨kk, hkk⟩ : ∃ kk : Int, (k : Int) = kk := ⟨_, rfl⟩
          rw [hkk]
          have HKK := Lib.hid hkk
          have hg : decide ((0 : Int) < kk) = false := by have := HK0.out; simp; omega
          clear hkk
          refine regionD (S := fun W => Held _ W [(wr.heap.size, 0, .int .i64 (x)), (wr.heap.size, 1, .int .i64 (y)), (wr.heap.size, 2, .int .i64 (z))]) (by kernel_rfl) H2.out.drew ?_
          iterate 31 (refine takeT (v := ?_) rfl (by kernel_rfl) (by kernel_rfl) (by kernel_rfl) ?_ ?_; rotate_left; (first | (refine Or.inr ⟨by rfl, ?_⟩; with_reducible rfl) | (refine Or.inl ⟨by rfl, fun W hS => detRes_value (w' := W) ?_ hS⟩; obtain ⟨x0, x1, x2, _⟩ := hS.1; go_simp; first | done | with_reducible rfl) | (refine Or.inl ⟨by rfl, fun W hS => ?_⟩; refine detRes_call (w' := W) (f := ?_) (args := ?_) ?_ ?_; rotate_left 2; (go_simp; (refine ⟨?_, ?_⟩ <;> with_reducible rfl)); (first | (with_reducible refine (HA.out _).mono ?_) | (with_reducible refine (HB.out _).mono ?_) | (with_reducible refine (HC.out _).mono ?_) | fail); (first | (rintro e wn ⟨rfl, hb⟩; refine ⟨?_, hS.step hb⟩; with_reducible rfl) | (rintro e wn ⟨rfl, rfl⟩; refine ⟨?_, hS⟩; with_reducible rfl) | fail)) | fail); (simp only [Act.put, List.setIfInBounds_toArray, List.set_cons_zero, List.set_cons_succ]))
          refine doneD (by kernel_rfl) fun wH3 HS => ?_
          have H3 := Lib.hid HS; clear HS
          try clear x0 x1 x2
          obtain ⟨x0, x1, x2, _⟩ := H3.out.1
          obtain rfl := HKK.out
          clear hg HKK
          go_wp2_with fail
          have H3W := Lib.hid (Held.rebase HBW.out hsz H3.out)
          clear H2 H3
          generalize wr.heap.size = bx at *
          go_loopw [5] (fun i wq => ∃ m : Nat, m ≤ k ∧ i = .int .i64 m ∧ (∀ j, j < m → (atT xs j).x ≠ x) ∧ Held w wq [(bx, 0, .int .i64 x), (bx, 1, .int .i64 y), (bx, 2, .int .i64 z)]) (fun i _ => k - (intOf i).toNat)
          case atStart => exact ⟨0, Nat.zero_le _, rfl, fun j hj => by omega, H3W.out.only (fun h => ⟨h.1, h.2.1, h.2.2.1, trivial⟩) (fun h => ⟨h.1, h.2.1, h.2.2.1, trivial⟩)⟩
          case round =>
            clear H3W
            obtain ⟨m, hm, rfl, hne, hh⟩ := hrel
            have HNE := Lib.hid hne; clear hne
            have H4 := Lib.hid hh; clear hh
            by_cases hmk : m < k
            · obtain ⟨_, _, he, _, _, hcs⟩ := (HV.out.step H4.out.below).form
              injection he with he1 he2 he3
              obtain ⟨b', o', hA, hbl', hd0, -, -⟩ := hcs m (by omega)
              injection (he1.trans hA) with he4
              injection he4 with he5 he6
              subst he5
              subst he6
              clear he1 he2 he3 hA hcs
              have HTW := Lib.hid (HTWICE.out m hmk)
              have HNX := Lib.hid (fun (h : (atT xs m).x ≠ x) => (fun j (hj : j < m + 1) => (if e : j = m then e ▸ h else HNE.out j (by omega)) : ∀ j, j < m + 1 → (atT xs j).x ≠ x))
              generalize (atT xs m).x = x' at *
              have H5 := Lib.hid (H4.out.withCell hbl' hd0)
              have hz5 : (m : Int) < (xs.length : Int) := by omega
              have hz6 : (0 : Int) ≤ m := by omega
              have hz7 : (m : Int) < (k : Int) := by omega
              clear hd0
              by_cases hx : x' = x
              · have HTW := Lib.hid (HTW.out hx)
                have hx1 : (x' == x) = true := by simpa using hx
                have hx2 : decide (x' = x) = true := by simpa using hx
                clear HNX hx
                go_wp2_with fail
                refine regionD (S := fun W => Held _ W [(b, o + m * 3, .int .i64 (x')), (bx, 0, .int .i64 (x)), (bx, 1, .int .i64 (y)), (bx, 2, .int .i64 (z))]) (by kernel_rfl) H5.out.drew ?_
                iterate 8 (refine takeT (v := ?_) rfl (by kernel_rfl) (by kernel_rfl) (by kernel_rfl) ?_ ?_; rotate_left; (first | (refine Or.inr ⟨by rfl, ?_⟩; with_reducible rfl) | (refine Or.inl ⟨by rfl, fun W hS => detRes_value (w' := W) ?_ hS⟩; obtain ⟨x0, x1, x2, x3, _⟩ := hS.1; go_simp; first | done | with_reducible rfl) | fail); (simp only [Act.put, List.setIfInBounds_toArray, List.set_cons_zero, List.set_cons_succ]))
                refine doneD (by kernel_rfl) fun wH6 HS => ?_
                have H6 := Lib.hid HS; clear HS
                try clear x0 x1 x2 x3
                obtain ⟨x0, x1, x2, x3, _⟩ := H6.out.1
                go_wp2_with fail
                go_ret
                exact ⟨ret_bool HTW.out.symm, H6.out.below⟩
              · have HNX := Lib.hid (HNX.out hx)
                have hx1 : (x' == x) = false := by simpa using hx
                have hx2 : decide (x' = x) = false := by simpa using hx
                clear HTW hx
                go_wp2_with fail
                refine regionD (S := fun W => Held _ W [(b, o + m * 3, .int .i64 (x')), (bx, 0, .int .i64 (x)), (bx, 1, .int .i64 (y)), (bx, 2, .int .i64 (z))]) (by kernel_rfl) H5.out.drew ?_
                iterate 8 (refine takeT (v := ?_) rfl (by kernel_rfl) (by kernel_rfl) (by kernel_rfl) ?_ ?_; rotate_left; (first | (refine Or.inr ⟨by rfl, ?_⟩; with_reducible rfl) | (refine Or.inl ⟨by rfl, fun W hS => detRes_value (w' := W) ?_ hS⟩; obtain ⟨x0, x1, x2, x3, _⟩ := hS.1; go_simp; first | done | with_reducible rfl) | fail); (simp only [Act.put, List.setIfInBounds_toArray, List.set_cons_zero, List.set_cons_succ]))
                refine doneD (by kernel_rfl) fun wH6 HS => ?_
                have H6 := Lib.hid HS; clear HS
                try clear x0 x1 x2 x3
                obtain ⟨x0, x1, x2, x3, _⟩ := H6.out.1
                go_wp2_with fail
                exact ⟨⟨m + 1, by omega, by go_num, HNX.out, H6.out.only (fun h => h.2) (fun h => h.2)⟩, by simp [intOf]; omega⟩
            · obtain rfl : m = k := by omega
              have HDN := Lib.hid (HNS.out HNE.out)
              go_wp2_with fail
              exact ⟨⟨m + 1, by omega, by go_num, HUX.out, HDN.out, H4.out.below⟩, by simp [intOf]; omega⟩
        · obtain ⟨q, hq⟩ : ∃ q, q + 1 = k := ⟨k - 1, by omega⟩
          have hdy := HDL.out q hq
          obtain ⟨_, _, he, _, _, hcs⟩ := (HV.out.step HBW.out).form
          injection he with he1 he2 he3
          obtain ⟨b', o', hA, hbl', -, -, hd2⟩ := hcs q (by omega)
          injection (he1.trans hA) with he4
          injection he4 with he5 he6
          subst he5
          subst he6
          clear he1 he2 he3 hA hcs
          rw [← hdy] at hd2
          have H2 := Lib.hid (((Held.none_ wr).withCell hbl hd2).new2 wr.heap.size rfl [.int .i64 x, .int .i64 y, .int .i64 z] 80)
          simp only [newFs, List.cons_append, List.nil_append, List.append_nil] at H2
          have HQ := Lib.hid hq; clear hq hk0 hdy HDL HD0 hd2
          go_wp2_with fail
          obtain ⟨kk, hkk⟩ : ∃ kk : Int, (k : Int) = kk := ⟨_, rfl⟩
          rw [hkk]
          have HKK := Lib.hid hkk
          have e1 : IntKind.i64.wrap (kk - 1) = (q : Int) := by
            have := HQ.out
            rw [show kk - 1 = (q : Int) by omega]; exact IntWalk.i64_in _ (by omega)
          have hg : decide ((0 : Int) < kk) = true := by have := HQ.out; simp; omega
          have hz4 : (q : Int) < (xs.length : Int) := by have := HQ.out; omega
          have hz5 : (0 : Int) ≤ (q : Int) := by omega
          clear hkk
          by_cases hday : z < dy
          · have HN := Lib.hid (HL.out (by trivial) hday)
            have hzd : decide (z < dy) = true := by simpa using hday
            clear HL HUS HNS HTWICE
            refine regionD (S := fun W => Held _ W [(wr.heap.size, 0, .int .i64 (x)), (wr.heap.size, 1, .int .i64 (y)), (wr.heap.size, 2, .int .i64 (z)), (b, o + q * 3 + 2, .int .i64 (dy))]) (by kernel_rfl) H2.out.drew ?_
            iterate 31 (refine takeT (v := ?_) rfl (by kernel_rfl) (by kernel_rfl) (by kernel_rfl) ?_ ?_; rotate_left; (first | (refine Or.inr ⟨by rfl, ?_⟩; with_reducible rfl) | (refine Or.inl ⟨by rfl, fun W hS => detRes_value (w' := W) ?_ hS⟩; obtain ⟨x0, x1, x2, x3, _⟩ := hS.1; go_simp; first | done | with_reducible rfl) | (refine Or.inl ⟨by rfl, fun W hS => ?_⟩; refine detRes_call (w' := W) (f := ?_) (args := ?_) ?_ ?_; rotate_left 2; (go_simp; (refine ⟨?_, ?_⟩ <;> with_reducible rfl)); (first | (with_reducible refine (HA.out _).mono ?_) | (with_reducible refine (HB.out _).mono ?_) | (with_reducible refine (HC.out _).mono ?_) | fail); (first | (rintro e wn ⟨rfl, hb⟩; refine ⟨?_, hS.step hb⟩; with_reducible rfl) | (rintro e wn ⟨rfl, rfl⟩; refine ⟨?_, hS⟩; with_reducible rfl) | fail)) | fail); (simp only [Act.put, List.setIfInBounds_toArray, List.set_cons_zero, List.set_cons_succ]))
            refine doneD (by kernel_rfl) fun wH3 HS => ?_
            have H3 := Lib.hid HS; clear HS
            try clear x0 x1 x2 x3
            obtain ⟨x0, x1, x2, x3, _⟩ := H3.out.1
            go_wp2_with fail
            go_ret
            exact ⟨ret_bool HN.out.symm, HBW.out.trans (H3.out.below.mono hsz)⟩
          · have HUX := Lib.hid (HUS.out (by trivial) (by omega))
            have hzd : decide (z < dy) = false := by simpa using hday
            clear HL HUS
            refine regionD (S := fun W => Held _ W [(wr.heap.size, 0, .int .i64 (x)), (wr.heap.size, 1, .int .i64 (y)), (wr.heap.size, 2, .int .i64 (z)), (b, o + q * 3 + 2, .int .i64 (dy))]) (by kernel_rfl) H2.out.drew ?_
            iterate 31 (refine takeT (v := ?_) rfl (by kernel_rfl) (by kernel_rfl) (by kernel_rfl) ?_ ?_; rotate_left; (first | (refine Or.inr ⟨by rfl, ?_⟩; with_reducible rfl) | (refine Or.inl ⟨by rfl, fun W hS => detRes_value (w' := W) ?_ hS⟩; obtain ⟨x0, x1, x2, x3, _⟩ := hS.1; go_simp; first | done | with_reducible rfl) | (refine Or.inl ⟨by rfl, fun W hS => ?_⟩; refine detRes_call (w' := W) (f := ?_) (args := ?_) ?_ ?_; rotate_left 2; (go_simp; (refine ⟨?_, ?_⟩ <;> with_reducible rfl)); (first | (with_reducible refine (HA.out _).mono ?_) | (with_reducible refine (HB.out _).mono ?_) | (with_reducible refine (HC.out _).mono ?_) | fail); (first | (rintro e wn ⟨rfl, hb⟩; refine ⟨?_, hS.step hb⟩; with_reducible rfl) | (rintro e wn ⟨rfl, rfl⟩; refine ⟨?_, hS⟩; with_reducible rfl) | fail)) | fail); (simp only [Act.put, List.setIfInBounds_toArray, List.set_cons_zero, List.set_cons_succ]))
            refine doneD (by kernel_rfl) fun wH3 HS => ?_
            have H3 := Lib.hid HS; clear HS
            try clear x0 x1 x2 x3
            obtain ⟨x0, x1, x2, x3, _⟩ := H3.out.1
            obtain rfl := HKK.out
            clear hg HKK e1 hzd
            go_wp2_with fail
            have H3W := Lib.hid (Held.rebase HBW.out hsz H3.out)
            clear H2 H3
            generalize wr.heap.size = bx at *
            go_loopw [5] (fun i wq => ∃ m : Nat, m ≤ k ∧ i = .int .i64 m ∧ (∀ j, j < m → (atT xs j).x ≠ x) ∧ Held w wq [(bx, 0, .int .i64 x), (bx, 1, .int .i64 y), (bx, 2, .int .i64 z)]) (fun i _ => k - (intOf i).toNat)
            case atStart => exact ⟨0, Nat.zero_le _, rfl, fun j hj => by omega, H3W.out.only (fun h => ⟨h.1, h.2.1, h.2.2.1, trivial⟩) (fun h => ⟨h.1, h.2.1, h.2.2.1, trivial⟩)⟩
            case round =>
              clear H3W
              obtain ⟨m, hm, rfl, hne, hh⟩ := hrel
              have HNE := Lib.hid hne; clear hne
              have H4 := Lib.hid hh; clear hh
              by_cases hmk : m < k
              · obtain ⟨_, _, he, _, _, hcs⟩ := (HV.out.step H4.out.below).form
                injection he with he1 he2 he3
                obtain ⟨b', o', hA, hbl', hd0, -, -⟩ := hcs m (by omega)
                injection (he1.trans hA) with he4
                injection he4 with he5 he6
                subst he5
                subst he6
                clear he1 he2 he3 hA hcs
                have HTW := Lib.hid (HTWICE.out m hmk)
                have HNX := Lib.hid (fun (h : (atT xs m).x ≠ x) => (fun j (hj : j < m + 1) => (if e : j = m then e ▸ h else HNE.out j (by omega)) : ∀ j, j < m + 1 → (atT xs j).x ≠ x))
                generalize (atT xs m).x = x' at *
                have H5 := Lib.hid (H4.out.withCell hbl' hd0)
                have hz5 : (m : Int) < (xs.length : Int) := by omega
                have hz6 : (0 : Int) ≤ m := by omega
                have hz7 : (m : Int) < (k : Int) := by omega
                clear hd0
                by_cases hx : x' = x
                · have HTW := Lib.hid (HTW.out hx)
                  have hx1 : (x' == x) = true := by simpa using hx
                  have hx2 : decide (x' = x) = true := by simpa using hx
                  clear HNX hx
                  go_wp2_with fail
                  refine regionD (S := fun W => Held _ W [(b, o + m * 3, .int .i64 (x')), (bx, 0, .int .i64 (x)), (bx, 1, .int .i64 (y)), (bx, 2, .int .i64 (z))]) (by kernel_rfl) H5.out.drew ?_
                  iterate 8 (refine takeT (v := ?_) rfl (by kernel_rfl) (by kernel_rfl) (by kernel_rfl) ?_ ?_; rotate_left; (first | (refine Or.inr ⟨by rfl, ?_⟩; with_reducible rfl) | (refine Or.inl ⟨by rfl, fun W hS => detRes_value (w' := W) ?_ hS⟩; obtain ⟨x0, x1, x2, x3, _⟩ := hS.1; go_simp; first | done | with_reducible rfl) | fail); (simp only [Act.put, List.setIfInBounds_toArray, List.set_cons_zero, List.set_cons_succ]))
                  refine doneD (by kernel_rfl) fun wH6 HS => ?_
                  have H6 := Lib.hid HS; clear HS
                  try clear x0 x1 x2 x3
                  obtain ⟨x0, x1, x2, x3, _⟩ := H6.out.1
                  go_wp2_with fail
                  go_ret
                  exact ⟨ret_bool HTW.out.symm, H6.out.below⟩
                · have HNX := Lib.hid (HNX.out hx)
                  have hx1 : (x' == x) = false := by simpa using hx
                  have hx2 : decide (x' = x) = false := by simpa using hx
                  clear HTW hx
                  go_wp2_with fail
                  refine regionD (S := fun W => Held _ W [(b, o + m * 3, .int .i64 (x')), (bx, 0, .int .i64 (x)), (bx, 1, .int .i64 (y)), (bx, 2, .int .i64 (z))]) (by kernel_rfl) H5.out.drew ?_
                  iterate 8 (refine takeT (v := ?_) rfl (by kernel_rfl) (by kernel_rfl) (by kernel_rfl) ?_ ?_; rotate_left; (first | (refine Or.inr ⟨by rfl, ?_⟩; with_reducible rfl) | (refine Or.inl ⟨by rfl, fun W hS => detRes_value (w' := W) ?_ hS⟩; obtain ⟨x0, x1, x2, x3, _⟩ := hS.1; go_simp; first | done | with_reducible rfl) | fail); (simp only [Act.put, List.setIfInBounds_toArray, List.set_cons_zero, List.set_cons_succ]))
                  refine doneD (by kernel_rfl) fun wH6 HS => ?_
                  have H6 := Lib.hid HS; clear HS
                  try clear x0 x1 x2 x3
                  obtain ⟨x0, x1, x2, x3, _⟩ := H6.out.1
                  go_wp2_with fail
                  exact ⟨⟨m + 1, by omega, by go_num, HNX.out, H6.out.only (fun h => h.2) (fun h => h.2)⟩, by simp [intOf]; omega⟩
              · obtain rfl : m = k := by omega
                have HDN := Lib.hid (HNS.out HNE.out)
                go_wp2_with fail
                exact ⟨⟨m + 1, by omega, by go_num, HUX.out, HDN.out, H4.out.below⟩, by simp [intOf]; omega⟩
    · obtain rfl : k = xs.length := by omega
      have HE := Lib.hid (HEND.out HU.out HNW.out)
      go_wp2_with fail
      go_ret
      exact ⟨ret_bool HE.out.symm, HBW.out⟩
end Go.Proofs.Ytfckgidilbjokac
