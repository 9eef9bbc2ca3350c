/-
  Several texts in one: a claim has at most 60 files.
-/
import Derived.Test.YtepacoacalhdcaaGreatG39
import Derived.Test.YtepacoacalhdcaaGreatG25
import Derived.Test.YtepacoacalhdcaaGreatG1
import Derived.Deep.Slices
import Derived.Deep.Fields
import Derived.ChangeSame
import Derived.ProofKit
import Derived.Deep.RegionHeld3
import Derived.Laws.Tables

namespace Go.Proofs.YtepacoacalhdcaaGreat
open Go.RowKit
set_option linter.unusedVariables false
set_option linter.unusedSimpArgs false

theorem fieldD (a b : Value) (w : World) : (Instr.field 96 (.agg #[a, b]) 0).run Tryz.prog w = .ok a w := by kernel_rfl

set_option maxRecDepth 100000 in
theorem implHasNode (ns ls : List Nd) (vn vl : Value) (k : Int) (w : World) (hn : Prs w vn ns) (hl : Prs w vl ls) :
    Calls Tryz.prog 188 #[.agg #[vn, vl], .int .i64 k] w (BoolIs (hasB ns ls k) w) := by
  have HN := Lib.hid hn
  have HL := Lib.hid hl
  have hlen := hn.len
  obtain ⟨A, c, rfl⟩ := prs_form2 hn
  obtain ⟨A2, c2, rfl⟩ := prs_form2 hl
  clear hn hl
  have H0 := Lib.hid (held_pair w (.slice A ns.length c) (.slice A2 ls.length c2) 32)
  have HW := Lib.hid (fun w h1 h2 => implWin ns ls (.slice A ns.length c) (.slice A2 ls.length c2) w h1 h2)
  have HD := Lib.hid (drawingOf_any A A2 ns.length c ls.length c2)
  unfold ValIs at HD
  have hfd := fieldD (.slice A ns.length c) (.slice A2 ls.length c2)
  have HH := Lib.hid (fun w => implHas A ns.length c k w (by omega))
  have HR := Lib.hid (show hasB ns ls k = (winB ns ls && idxB ns.length k) from rfl)
  generalize hasB ns ls k = r at *
  generalize winB ns ls = d at *
  generalize idxB ns.length k = b at *
  cases d
  · go_enter Tryz.func188, Tryz.ntmps188
    go_wp2_with fail
    refine (HW.out _ (HN.out.step H0.out.below) (HL.out.step H0.out.below)).mono ?_
    rintro e wH1 ⟨rfl, hb⟩
    have H1 := Lib.hid ((H0.out).step hb); clear hb
    try clear x0 x1
    obtain ⟨x0, x1, _⟩ := H1.out.1
    go_wp2_with fail
    go_ret
    exact ⟨ret_bool (by rw [HR.out]; simp), H1.out.below⟩
  · go_enter Tryz.func188, Tryz.ntmps188
    go_wp2_with fail
    refine (HW.out _ (HN.out.step H0.out.below) (HL.out.step H0.out.below)).mono ?_
    rintro e wH1 ⟨rfl, hb⟩
    have H1 := Lib.hid ((H0.out).step hb); clear hb
    try clear x0 x1
    obtain ⟨x0, x1, _⟩ := H1.out.1
    go_wp2_with fail
    refine (HD.out _).mono ?_
    rintro e wH2 ⟨rfl, hb⟩
    have H2 := Lib.hid ((H1.out).step hb); clear hb
    try clear x0 x1
    obtain ⟨x0, x1, _⟩ := H2.out.1
    go_wp2_with fail
    refine (HH.out _).mono ?_
    rintro e w' ⟨rfl, rfl⟩
    go_wp2_with fail
    go_ret
    exact ⟨ret_bool (by rw [HR.out]; simp), H2.out.below⟩

set_option maxRecDepth 100000 in
theorem implLeadsAt (ns ls : List Nd) (vn vl : Value) (k : Int) (w : World) (hn : Prs w vn ns) (hl : Prs w vl ls) :
    Calls Tryz.prog 189 #[.agg #[vn, vl], .int .i64 k] w (IntsNew (atsI ns ls k) w) := by
  have HN := Lib.hid hn
  have HL := Lib.hid hl
  obtain ⟨A, c, rfl⟩ := prs_form2 hn
  obtain ⟨A2, c2, rfl⟩ := prs_form2 hl
  have hcap := prs_cap hl
  clear hn hl
  obtain ⟨i0, hi, hz0, hz1, hz2⟩ := info_parts infoInt
  have HI := Lib.hid (And.intro hi (And.intro hz0 (And.intro hz1 hz2))); clear hi hz0 hz1 hz2
  have H0 := Lib.hid (held_pair w (.slice A ns.length c) (.slice A2 ls.length c2) 32)
  have HW := Lib.hid (fun w h1 h2 => implHasNode ns ls (.slice A ns.length c) (.slice A2 ls.length c2) k w h1 h2)
  have HR := Lib.hid (show atsI ns ls k = if hasB ns ls k = true then atL ls k ls.length else [] from rfl)
  generalize atsI ns ls k = r at *
  have HD0 := Lib.hid (show hasB ns ls k = false → r = [] from fun h => by rw [HR.out, h]; rfl)
  have HD1 := Lib.hid (show hasB ns ls k = true → atL ls k ls.length = r from fun h => by rw [HR.out, if_pos h])
  have HOG := Lib.hid (show hasB ns ls k = true → ∀ i, i < ls.length → (0 ≤ otherI (atN ls i) k ↔ ((atN ls i).x = k ∨ (atN ls i).y = k)) from fun h i hi => other_ge (by unfold hasB at h; simp at h; exact h.1) hi k)
  have HLE := Lib.hid (show hasB ns ls k = true → ls.length ≤ 20 from fun h => ((winB_iff ns ls).1 (by unfold hasB at h; simp at h; exact h.1)).1.2)
  have HLN := Lib.hid (atL_len ls k)
  have HST := Lib.hid (fun n => (show atL ls k (n + 1) = if (atN ls n).x = k ∨ (atN ls n).y = k then atL ls k n ++ [(n : Int)] else atL ls k n from rfl))
  have HZ := Lib.hid (show atL ls k 0 = [] from rfl)
  clear HR
  generalize hasB ns ls k = d at *
  obtain ⟨_, hc1, hc2⟩ := hcap
  cases d
  · go_enter Tryz.func189, Tryz.ntmps189
    go_wp2_with fail
    refine (HW.out _ (HN.out.step H0.out.below) (HL.out.step H0.out.below)).mono ?_
    rintro e wH1 ⟨rfl, hb⟩
    have H1 := Lib.hid ((H0.out).step hb); clear hb
    try clear x0 x1
    obtain ⟨x0, x1, _⟩ := H1.out.1
    go_wp2_with fail
    go_ret
    exact ⟨_, rfl, by rw [HD0.out (by trivial)]; exact Ints.nil _ _, H1.out.below⟩
  · have HLE := HLE.out (by trivial)
    go_enter Tryz.func189, Tryz.ntmps189
    go_wp2_with fail
    refine (HW.out _ (HN.out.step H0.out.below) (HL.out.step H0.out.below)).mono ?_
    rintro e wH1 ⟨rfl, hb⟩
    have H1 := Lib.hid ((H0.out).step hb); clear hb
    try clear x0 x1
    obtain ⟨x0, x1, _⟩ := H1.out.1
    obtain ⟨y0, y1, _⟩ := H1.out.2.1
    go_wp2_with fail
    have HB1 := Lib.hid H1.out.below
    clear H0
    go_loopw [5, 16] (fun v i wr => ∃ m : Nat, m ≤ ls.length ∧ i = .int .i64 m ∧ Ints wr w.heap.size v (atL ls k m) ∧ Below w.heap.size w wr) (fun _ i _ => ls.length - (intOf i).toNat)
    case atStart => exact ⟨0, Nat.zero_le _, rfl, by rw [HZ.out]; exact World.ownsRow_made _ _ _ HB1.out.size (by unfold maxLen; omega) rfl, HB1.out.alloc HB1.out.size _⟩
    case round =>
      clear H1 HB1
      obtain ⟨m, hm, rfl, hown, hb⟩ := hrel
      have HOWN := Lib.hid hown; clear hown
      have HB := Lib.hid hb; clear hb
      have hsz := HB.out.size
      by_cases hlt : m < ls.length
      · obtain ⟨b, o, c', he, hbl, hcs⟩ := prs_at2 (HL.out.step HB.out) hlt
        injection he with he1 he2 he3
        subst he1
        clear he2 he3
        obtain ⟨c0, c1⟩ := hcs m hlt
        clear hcs
        have HX := Lib.hid (implOther (atN ls m) k)
        have HY := Lib.hid (HOG.out (by trivial) m hlt)
        have HS := Lib.hid (HST.out m)
        have hll := HLN.out m
        generalize otherI (atN ls m) k = q at *
        generalize atN ls m = n at *
        obtain ⟨nx, ny⟩ := n
        unfold Nd.val at HX
        simp only at c0 c1 HX HY HS
        have hz1 : (m : Int) < (ls.length : Int) := by omega
        have hz2 : (0 : Int) ≤ m := by omega
        by_cases hq : 0 ≤ q
        · go_wp2_with fail
          refine (HX.out _).mono ?_
          rintro e w1 ⟨rfl, hb1⟩
          have HO1 := Lib.hid ((HOWN.out.step ((Below.refl _ _).alloc (Nat.le_refl _) _)).step hb1)
          have HB1 := Lib.hid ((HB.out.alloc hsz _).trans (hb1.mono (Nat.le_trans hsz (by simp))))
          clear hb1
          have hsz1 := HB1.out.size
          obtain ⟨hi, hz0, hz1, hz2⟩ := HI.out
          go_wp2_with (at_builtin; refine wpList_append_own _ rfl _ _ 27 rfl w.heap.size 3 i0 (.int .i64 0) 1 8 Tryz.underlying27 hi hz0 hz1 hz2 rfl (by decide) _ _ _ rfl (World.ownsRow.alloc HO1.out _) ⟨w1.heap.size, 0, none⟩ 1 1 [.int .i64 m] rfl rfl ?c1 ?c2 ?c3 ?c4 ?c5 ?_)
          case c1 => exact cell_one_new _ _ _
          case c2 => simp [Value.oneCell']
          case c3 => unfold maxLen; omega
          case c4 => omega
          case c5 => simp; omega
          intro v' w2 hown hgrow _
          have HB2 := Lib.hid (HB1.out.trans (grown_below HO1.out hsz1 hgrow))
          have HO2 := Lib.hid (Ints.more hown); clear hown hgrow
          go_wp2_with fail
          exact ⟨⟨m + 1, by omega, by go_num, by rw [HS.out, if_pos (HY.out.1 hq)]; exact HO2.out, HB2.out⟩, by simp [intOf]; omega⟩
        · go_wp2_with fail
          refine (HX.out _).mono ?_
          rintro e w1 ⟨rfl, hb1⟩
          have HO1 := Lib.hid ((HOWN.out.step ((Below.refl _ _).alloc (Nat.le_refl _) _)).step hb1)
          have HB1 := Lib.hid ((HB.out.alloc hsz _).trans (hb1.mono (Nat.le_trans hsz (by simp))))
          clear hb1
          go_wp2_with fail
          exact ⟨⟨m + 1, by omega, by go_num, by rw [HS.out, if_neg (fun h => by have := HY.out.2 h; omega)]; exact HO1.out, HB1.out⟩, by simp [intOf]; omega⟩
      · obtain rfl : m = ls.length := by omega
        go_wp2_with fail
        go_ret
        exact ⟨_, rfl, by rw [← HD1.out (by trivial)]; exact HOWN.out, HB.out⟩

end Go.Proofs.YtepacoacalhdcaaGreat

namespace Go.Proofs.YtepacoacalhdcaaGreat
open Go.RowKit
set_option linter.unusedVariables false
set_option linter.unusedSimpArgs false

/-- The first of n places from k on at which xs has p; -1 if there is none. -/
def fstGo (xs : List Nd) (p : Nd) : Nat → Nat → Int
  | _, 0 => -1
  | k, n + 1 => if atN xs k = p then (k : Int) else fstGo xs p (k + 1) n

def fstI (xs : List Nd) (p : Nd) : Int := fstGo xs p 0 xs.length

theorem fstGo_step {xs : List Nd} {p : Nd} {k : Nat} (h : k < xs.length) : fstGo xs p k (xs.length - k) = if atN xs k = p then (k : Int) else fstGo xs p (k + 1) (xs.length - (k + 1)) := by
  rw [show xs.length - k = (xs.length - (k + 1)) + 1 by omega]; rfl

theorem fstGo_end (xs : List Nd) (p : Nd) : fstGo xs p xs.length (xs.length - xs.length) = -1 := by rw [Nat.sub_self]; rfl

def betI (ns ls : List Nd) (a b : Int) : Int := if winB ns ls = true then fstI ls ⟨min a b, max a b⟩ else -1

theorem eqLd (a b : Nd) (w : World) : (Op.equalIn 10000 151 (.agg #[.int .i64 a.x, .int .i64 a.y]) (.agg #[.int .i64 b.x, .int .i64 b.y])).run Tryz.prog w = .ok (decide (a = b)) w := by
  obtain ⟨ax, ay⟩ := a
  obtain ⟨bx, by'⟩ := b
  simp only [Nd.mk.injEq]
  by_cases h1 : ax = bx
  · subst h1
    by_cases h2 : ay = by'
    · subst h2; go_simp
    · have h3 : (ay == by') = false := by rw [beq_eq_false_iff_ne]; exact h2
      go_simp
  · have h3 : (ax == bx) = false := by rw [beq_eq_false_iff_ne]; exact h1
    go_simp

end Go.Proofs.YtepacoacalhdcaaGreat

namespace Go.Proofs.YtepacoacalhdcaaGreat
open Go.RowKit
set_option linter.unusedVariables false
set_option linter.unusedSimpArgs false

def hasDB (ns ls : List Nd) (d : Int) : Bool := winB ns ls && idxB (2 * ls.length) d

/-- Where dart d begins and ends. -/
def dF (ls : List Nd) (d : Nat) : Int := if d % 2 = 1 then (atN ls (d / 2)).y else (atN ls (d / 2)).x

def dT (ls : List Nd) (d : Nat) : Int := if d % 2 = 1 then (atN ls (d / 2)).x else (atN ls (d / 2)).y

def fromI (ns ls : List Nd) (d : Int) : Int := if hasDB ns ls d = true then dF ls d.toNat else -1

def toI (ns ls : List Nd) (d : Int) : Int := if hasDB ns ls d = true then dT ls d.toNat else -1

def dbetI (ns ls : List Nd) (a b : Int) : Int := if betI ns ls a b < 0 then -1 else if a < b then 2 * betI ns ls a b else 2 * betI ns ls a b + 1

def TwoIs (a b : Int) (w : World) (e : Ending) (w' : World) : Prop := e = .returned (.tuple #[.int .i64 a, .int .i64 b]) ∧ Below w.heap.size w w'

theorem hasDB_nat {ns ls : List Nd} {d : Int} (h : hasDB ns ls d = true) : ∃ k : Nat, d = k ∧ k < 2 * ls.length ∧ ls.length ≤ 20 ∧ winB ns ls = true := by
  unfold hasDB at h
  simp only [Bool.and_eq_true] at h
  have h2 := (idxB_iff _ _).1 h.2
  have h3 := ((winB_iff ns ls).1 h.1).1.2
  exact ⟨d.toNat, by omega, by omega, h3, h.1⟩

set_option maxRecDepth 100000 in
set_option maxHeartbeats 400000 in
theorem dEnds (ls : List Nd) (vn vl : Value) (d : Nat) (w : World) (hl : Prs w vl ls) (hd : d < 2 * ls.length) (h20 : ls.length ≤ 20) :
    Calls Tryz.prog 146 #[.agg #[vn, vl], .int .i64 d] w (TwoIs (dF ls d) (dT ls d) w) := by
  have HL := Lib.hid hl
  obtain ⟨A2, c2, rfl⟩ := prs_form2 hl
  obtain ⟨b, o, c', he, hbl, hcs⟩ := prs_at2 hl (k := d / 2) (by omega)
  injection he with he1 he2 he3
  subst he1
  clear he2 he3 hl
  have hX : dF ls d = (if d % 2 = 1 then (atN ls (d / 2)).y else (atN ls (d / 2)).x) := rfl
  have hY : dT ls d = (if d % 2 = 1 then (atN ls (d / 2)).x else (atN ls (d / 2)).y) := rfl
  have HX := Lib.hid hX
  have HY := Lib.hid hY
  clear hX hY
  have H0 := Lib.hid (held_plus (held_pair w vn (.slice (some ⟨b, o, none⟩) ls.length c2) 96) (gs := P1 b o ls (d / 2)) ((Cs.keep (n := w.heap.size) (P1_bs hbl) (P1_cs hcs (by omega)) fun b' o' h => ((Below.refl w.heap.size w).alloc (Nat.le_refl _) _).cell (p := ⟨b', o', none⟩) h)) ((P1_bs hbl).mono (by simp)))
  unfold P1 at H0
  simp only [List.cons_append, List.nil_append] at H0
  unfold TwoIs
  generalize dF ls d = rx at *
  generalize dT ls d = ry at *
  have HQ := Lib.hid (show (d : Int) / 2 = ((d / 2 : Nat) : Int) from by omega)
  have HM := Lib.hid (show (d : Int) % 2 = ((d % 2 : Nat) : Int) from by omega)
  have hq : d / 2 < ls.length := by omega
  have hm : d % 2 < 2 := by omega
  generalize atN ls (d / 2) = n at *
  obtain ⟨x, y⟩ := n
  simp only at HX HY H0
  obtain ⟨x0, x1, x2, x3, _⟩ := H0.out.1
  clear HL hcs
  have y3 : w.cell? ⟨b, o + d / 2 * 2, none⟩ = some (.int .i64 x) := by rw [← x2]; exact (World.cell?_alloc_lt w _ _ (by simpa using hbl)).symm
  have y4 : w.cell? ⟨b, o + d / 2 * 2 + 1, none⟩ = some (.int .i64 y) := by rw [← x3]; exact (World.cell?_alloc_lt w _ _ (by simpa using hbl)).symm
  have hb1 : b < w.heap.size + 1 := by omega
  clear x0 x1 x2 x3
  have q1 : (0 : Int) ≤ ((d / 2 : Nat) : Int) := by omega
  have q2 : ((d / 2 : Nat) : Int) < (ls.length : Int) := by omega
  have HQ1 := Lib.hid q1
  go_enter Tryz.func146, Tryz.ntmps146
  go_wp2_with fail
  · rename_i hm1 _ _
    go_quiet (fail)
    go_wp2_with fail
    go_ret2
    have e : d % 2 = 1 := by have := eq_of_beq hm1; omega
    refine ⟨?_, below_drewN (below2 w _ _) _⟩
    rw [HX.out, HY.out, if_pos e, if_pos e]; rfl
  · rename_i hm1 _ _
    go_quiet (fail)
    go_wp2_with fail
    go_ret2
    have e : ¬ d % 2 = 1 := fun e => by
      rw [show (d : Int) % 2 = 1 by omega] at hm1
      cases hm1
    refine ⟨?_, below_drewN (below2 w _ _) _⟩
    rw [HX.out, HY.out, if_neg e, if_neg e]; rfl

set_option maxRecDepth 100000 in
set_option maxHeartbeats 400000 in
theorem sEnds (ls : List Nd) (vn vl : Value) (d : Nat) (w : World) (hl : Prs w vl ls) (hd : d < 2 * ls.length) (h20 : ls.length ≤ 20) :
    Calls Tryz.prog 90 #[.agg #[vn, vl], .int .i64 d] w (TwoIs (dF ls d) (dT ls d) w) := by
  have HL := Lib.hid hl
  obtain ⟨A2, c2, rfl⟩ := prs_form2 hl
  obtain ⟨b, o, c', he, hbl, hcs⟩ := prs_at2 hl (k := d / 2) (by omega)
  injection he with he1 he2 he3
  subst he1
  clear he2 he3 hl
  have hX : dF ls d = (if d % 2 = 1 then (atN ls (d / 2)).y else (atN ls (d / 2)).x) := rfl
  have hY : dT ls d = (if d % 2 = 1 then (atN ls (d / 2)).x else (atN ls (d / 2)).y) := rfl
  have HX := Lib.hid hX
  have HY := Lib.hid hY
  clear hX hY
  have H0 := Lib.hid (held_plus (held_pair w vn (.slice (some ⟨b, o, none⟩) ls.length c2) 32) (gs := P1 b o ls (d / 2)) ((Cs.keep (n := w.heap.size) (P1_bs hbl) (P1_cs hcs (by omega)) fun b' o' h => ((Below.refl w.heap.size w).alloc (Nat.le_refl _) _).cell (p := ⟨b', o', none⟩) h)) ((P1_bs hbl).mono (by simp)))
  unfold P1 at H0
  simp only [List.cons_append, List.nil_append] at H0
  unfold TwoIs
  generalize dF ls d = rx at *
  generalize dT ls d = ry at *
  have HQ := Lib.hid (show (d : Int) / 2 = ((d / 2 : Nat) : Int) from by omega)
  have HM := Lib.hid (show (d : Int) % 2 = ((d % 2 : Nat) : Int) from by omega)
  have hq : d / 2 < ls.length := by omega
  have hm : d % 2 < 2 := by omega
  generalize atN ls (d / 2) = n at *
  obtain ⟨x, y⟩ := n
  simp only at HX HY H0
  obtain ⟨x0, x1, x2, x3, _⟩ := H0.out.1
  clear HL hcs
  have y3 : w.cell? ⟨b, o + d / 2 * 2, none⟩ = some (.int .i64 x) := by rw [← x2]; exact (World.cell?_alloc_lt w _ _ (by simpa using hbl)).symm
  have y4 : w.cell? ⟨b, o + d / 2 * 2 + 1, none⟩ = some (.int .i64 y) := by rw [← x3]; exact (World.cell?_alloc_lt w _ _ (by simpa using hbl)).symm
  have hb1 : b < w.heap.size + 1 := by omega
  clear x0 x1 x2 x3
  have q1 : (0 : Int) ≤ ((d / 2 : Nat) : Int) := by omega
  have q2 : ((d / 2 : Nat) : Int) < (ls.length : Int) := by omega
  have HQ1 := Lib.hid q1
  go_enter Tryz.func90, Tryz.ntmps90
  go_wp2_with fail
  · rename_i hm1 _ _
    go_quiet (fail)
    go_wp2_with fail
    go_ret2
    have e : d % 2 = 1 := by have := eq_of_beq hm1; omega
    refine ⟨?_, below_drewN (below2 w _ _) _⟩
    rw [HX.out, HY.out, if_pos e, if_pos e]; rfl
  · rename_i hm1 _ _
    go_quiet (fail)
    go_wp2_with fail
    go_ret2
    have e : ¬ d % 2 = 1 := fun e => by
      rw [show (d : Int) % 2 = 1 by omega] at hm1
      cases hm1
    refine ⟨?_, below_drewN (below2 w _ _) _⟩
    rw [HX.out, HY.out, if_neg e, if_neg e]; rfl

theorem wrap_two {n : Nat} (h : n ≤ 1048576) : IntKind.i64.wrap (2 * (n : Int)) = 2 * (n : Int) := IntWalk.i64_in _ (by omega)

theorem wrap_two1 {n : Nat} (h : n ≤ 1048576) : IntKind.i64.wrap (2 * (n : Int) - 1) = ((2 * n : Nat) : Int) - 1 := by rw [IntWalk.i64_in _ (by omega)]; omega

theorem betI_nat {ns ls : List Nd} {a b : Int} (h : ¬ betI ns ls a b < 0) : ∃ k : Nat, betI ns ls a b = k ∧ k < ls.length ∧ ls.length ≤ 20 ∧ atN ls k = ⟨min a b, max a b⟩ ∧ min a b < max a b := by
  unfold betI at *
  by_cases hw : winB ns ls = true
  · rw [if_pos hw] at h ⊢
    have hf : ∀ (n k : Nat), n + k = ls.length → ¬ fstGo ls ⟨min a b, max a b⟩ k n < 0 → ∃ q : Nat, fstGo ls ⟨min a b, max a b⟩ k n = q ∧ q < ls.length ∧ atN ls q = ⟨min a b, max a b⟩ := by
      intro n
      induction n with
      | zero => intro k hk h; simp [fstGo] at h
      | succ n ih =>
        intro k hk h
        unfold fstGo at h ⊢
        by_cases e : atN ls k = ⟨min a b, max a b⟩
        · rw [if_pos e]; exact ⟨k, rfl, by omega, e⟩
        · rw [if_neg e] at h ⊢; exact ih (k + 1) (by omega) h
    obtain ⟨q, e, hq, hat⟩ := hf ls.length 0 rfl h
    have hok := (((winB_iff ns ls).1 hw).2.2 q hq).1
    obtain ⟨i, j, e2, hij, _⟩ := leadOkB_spec hok
    rw [hat] at e2
    injection e2 with e3 e4
    exact ⟨q, e, hq, ((winB_iff ns ls).1 hw).1.2, hat, by omega⟩
  · rw [if_neg hw] at h; omega

end Go.Proofs.YtepacoacalhdcaaGreat

namespace Go.Proofs.YtepacoacalhdcaaGreat
open Go.RowKit Go.ChangeShapes Go.WideShapes Go.Deep
set_option linter.unusedVariables false
set_option linter.unusedSimpArgs false

theorem list_of_all {n : Nat} {R : Nat → Nd → Prop} (h : ∀ i, i < n → ∃ p, R i p) : ∃ xs : List Nd, xs.length = n ∧ ∀ i, i < n → R i (atN xs i) := by
  refine ⟨(List.range n).map fun i => if hi : i < n then Classical.choose (h i hi) else ⟨0, 0⟩, by simp, fun i hi => ?_⟩
  have e : atN ((List.range n).map fun i => if hi : i < n then Classical.choose (h i hi) else ⟨0, 0⟩) i = Classical.choose (h i hi) := by
    unfold atN
    simp [List.getD, List.getElem?_map, List.getElem?_range, hi]
  rw [e]
  exact Classical.choose_spec (h i hi)

section

variable {H : Type} {enc : TypeId × Value → H} {P : Program} {w : World} {base : Nat} {spare : Nat → Bool} {held : Bool}

theorem prs_open {t e : TypeId} {f0 f1 : Field} {fuel : Nat} {cs : List Value} {x : DataW H × List MemPlace} (ht : P.underlying t = some (.slice e)) (he : P.underlying e = some (.struct #[f0, f1]))
    (hone : oneCellFields P #[f0, f1] = true) (hC : P.cellsOf e = 2) (hk0 : P.underlying f0.type = some (.int .i64)) (hk1 : P.underlying f1.type = some (.int .i64))
    (h : DataW.trod enc P w base spare held fuel t cs = some x) : ∃ v xs, cs = [v] ∧ Prs w v xs := by
  rcases open_slice ht h with ⟨h0, _⟩ | ⟨a, len, cap, m, n, D, Pl, hcs, hb, hl, hm, hmm, hx, hi⟩
  · exact ⟨_, [], h0, Prs.nil_ w⟩
  · have hle : len ≤ m := by rw [hmm]; split <;> omega
    have hall : ∀ i, i < len → ∃ p : Nd, w.cell? (a.add (i * 2)) = some (.int .i64 p.x) ∧ w.cell? (a.add (i * 2 + 1)) = some (.int .i64 p.y) := by
      intro i hil
      obtain ⟨cs', hc, ht'⟩ := hi i (by omega)
      rw [hC] at hc
      obtain ⟨ys, n', hn', hy, hlen, hyl, hf⟩ := DataW.trod_struct he ht'
      obtain ⟨_, hcl, hat⟩ := World.cells?_some hc
      have hcl2 : cs'.length = 2 := hcl
      match cs', hcl2 with
      | [u0, u1], _ =>
        obtain ⟨o0, k0⟩ := hone_of hone 0 f0 rfl
        obtain ⟨o1, k1⟩ := hone_of hone 1 f1 rfl
        have g0 := hf 0 f0 rfl
        have g1 := hf 1 f1 rfl
        rw [o0, k0] at g0
        rw [o1, k1] at g1
        have y0 : ys[0]? = some (ys[0]'(by rw [hyl]; simp)) := List.getElem?_eq_getElem _
        have y1 : ys[1]? = some (ys[1]'(by rw [hyl]; simp)) := List.getElem?_eq_getElem _
        obtain ⟨p, e0, _, _⟩ := DataW.trod_int hk0 (g0.trans y0)
        obtain ⟨q, e1, _, _⟩ := DataW.trod_int hk1 (g1.trans y1)
        have c0 := hat 0 (by omega)
        have c1 := hat 1 (by omega)
        rw [Go.Deep.add_add] at c0 c1
        simp only [Nat.add_zero] at c0
        refine ⟨⟨p, q⟩, ?_, ?_⟩
        · rw [c0]; simpa using e0
        · rw [c1]; simpa using e1
    obtain ⟨xs, hxl, hxs⟩ := list_of_all hall
    subst hxl
    refine ⟨_, xs, hcs, some a, cap, rfl, hl, hm, fun h0 => ?_⟩
    obtain ⟨b, off, spot⟩ := a
    have hspot : spot = none := by
      have := (hxs 0 h0).1
      simp [Addr.add] at this
      exact World.cell?_spot this
    subst hspot
    have hp := fun i hi => hxs i hi
    simp only [Go.WideShapes.add_plain] at hp
    exact ⟨b, off, rfl, World.block_lt_of_cell? w _ (hp 0 h0).1, fun k hk => by
      have := hp k hk
      rw [← Nat.add_assoc] at this
      exact this⟩

end
end Go.Proofs.YtepacoacalhdcaaGreat

namespace Go.Proofs.YtepacoacalhdcaaGreat
open Go.RowKit Go.ChangeShapes Go.WideShapes Go.Deep
set_option linter.unusedVariables false
set_option linter.unusedSimpArgs false

def atZ (xs : List Int) (k : Nat) : Int := xs.getD k 0

theorem atZ_get {xs : List Int} {k : Nat} (h : k < xs.length) : xs[k] = atZ xs k := by unfold atZ; simp [List.getD, h]

/-- The slice value v reads as the ints xs. -/
def Seq (w : World) (v : Value) (xs : List Int) : Prop :=
  ∃ (A : Option Addr) (c : Nat), v = .slice A xs.length c ∧ xs.length ≤ c ∧ c ≤ maxLen ∧ (0 < xs.length → ∃ b o, A = some ⟨b, o, none⟩ ∧ b < w.heap.size ∧ ∀ k, k < xs.length → w.cell? ⟨b, o + k, none⟩ = some (.int .i64 (atZ xs k)))

theorem Seq.step {w w' : World} {v : Value} {xs : List Int} (h : Seq w v xs) (hb : Below w.heap.size w w') : Seq w' v xs := by
  obtain ⟨A, c, rfl, hl, hc, hx⟩ := h
  refine ⟨A, c, rfl, hl, hc, fun h0 => ?_⟩
  obtain ⟨b, o, rfl, hlt, hcs⟩ := hx h0
  exact ⟨b, o, rfl, Nat.lt_of_lt_of_le hlt hb.size, fun k hk => (hb.cell (p := ⟨b, o + k, none⟩) hlt).trans (hcs k hk)⟩

theorem Seq.form {w : World} {v : Value} {xs : List Int} (h : Seq w v xs) : ∃ (A : Option Addr) (c : Nat), v = .slice A xs.length c ∧ xs.length ≤ c ∧ c ≤ maxLen ∧
    ∀ k, k < xs.length → ∃ b o, A = some ⟨b, o, none⟩ ∧ b < w.heap.size ∧ w.cell? ⟨b, o + k, none⟩ = some (.int .i64 (atZ xs k)) := by
  obtain ⟨A, c, rfl, hl, hc, hx⟩ := h
  refine ⟨A, c, rfl, hl, hc, fun k hk => ?_⟩
  obtain ⟨b, o, hA, hlt, hcs⟩ := hx (by omega)
  exact ⟨b, o, hA, hlt, hcs k hk⟩

theorem Ints.seq {w : World} {B : Nat} {v : Value} {xs : List Int} (h : Ints w B v xs) : Seq w v xs := by
  unfold Ints at h
  have H := h
  rcases h.2 with ⟨rfl, h0⟩ | ⟨g, cap, cur, rfl, hb, hg, hnc, hcm, hcs, ht⟩
  · exact ⟨none, 0, by rw [h0], by omega, by unfold maxLen; omega, fun h => by omega⟩
  · refine ⟨_, cap, rfl, hnc, hcm, fun h0 => ⟨g, 0, rfl, lt_of_block hg, fun k hk => ?_⟩⟩
    rw [Nat.zero_add, H.cellAt k (by omega)]
    simp [hk, ← atZ_get hk]

theorem zlist_of_all {n : Nat} {R : Nat → Int → Prop} (h : ∀ i, i < n → ∃ p, R i p) : ∃ xs : List Int, xs.length = n ∧ ∀ i, i < n → R i (atZ xs i) := by
  refine ⟨(List.range n).map fun i => if hi : i < n then Classical.choose (h i hi) else 0, by simp, fun i hi => ?_⟩
  have e : atZ ((List.range n).map fun i => if hi : i < n then Classical.choose (h i hi) else 0) i = Classical.choose (h i hi) := by
    unfold atZ
    simp [List.getD, List.getElem?_map, List.getElem?_range, hi]
  rw [e]
  exact Classical.choose_spec (h i hi)

section

variable {H : Type} {enc : TypeId × Value → H} {P : Program} {w : World} {base : Nat} {spare : Nat → Bool} {held : Bool}

theorem seq_open {t e : TypeId} {fuel : Nat} {cs : List Value} {x : DataW H × List MemPlace} (ht : P.underlying t = some (.slice e)) (he : P.underlying e = some (.int .i64)) (hC : P.cellsOf e = 1)
    (h : DataW.trod enc P w base spare held fuel t cs = some x) : ∃ v xs, cs = [v] ∧ Seq w v xs := by
  rcases open_slice ht h with ⟨h0, _⟩ | ⟨a, len, cap, m, n, D, Pl, hcs, hb, hl, hm, hmm, hx, hi⟩
  · exact ⟨_, [], h0, none, 0, rfl, Nat.le_refl _, Nat.zero_le _, fun h => absurd h (by simp)⟩
  · have hle : len ≤ m := by rw [hmm]; split <;> omega
    have hall : ∀ i, i < len → ∃ p : Int, w.cell? (a.add i) = some (.int .i64 p) := by
      intro i hil
      obtain ⟨cs', hc, ht'⟩ := hi i (by omega)
      rw [hC] at hc
      obtain ⟨p, e0, _, _⟩ := DataW.trod_int he ht'
      obtain ⟨_, hcl, hat⟩ := World.cells?_some hc
      have c0 := hat 0 (by omega)
      rw [Go.Deep.add_add] at c0
      simp only [Nat.add_zero, Nat.mul_one] at c0
      refine ⟨p, ?_⟩
      rw [c0, e0]; rfl
    obtain ⟨xs, hxl, hxs⟩ := zlist_of_all hall
    subst hxl
    refine ⟨_, xs, hcs, some a, cap, rfl, hl, hm, fun h0 => ?_⟩
    obtain ⟨b, off, spot⟩ := a
    have hspot : spot = none := by
      have := hxs 0 h0
      simp [Addr.add] at this
      exact World.cell?_spot this
    subst hspot
    have hp := fun i hi => hxs i hi
    simp only [Go.WideShapes.add_plain] at hp
    exact ⟨b, off, rfl, World.block_lt_of_cell? w _ (hp 0 h0), hp⟩

end

theorem seq_form2 {w : World} {v : Value} {xs : List Int} (h : Seq w v xs) : ∃ (A : Option Addr) (c : Nat), v = .slice A xs.length c := by
  obtain ⟨A, c, rfl, _⟩ := h
  exact ⟨A, c, rfl⟩

theorem Seq.len {w : World} {v : Value} {xs : List Int} (h : Seq w v xs) : xs.length ≤ 9223372036854775807 := by
  obtain ⟨A, c, rfl, hl, hc, hx⟩ := h
  unfold maxLen at hc
  omega

theorem stable_seq (v : Value) (xs : List Int) : Stable fun W => Seq W v xs := fun _ _ h hb => h.step hb

theorem filled_set (xs : List Int) (k : Nat) (h : k < xs.length) : (xs.take k ++ List.replicate (xs.length - k) 0).set k (atZ xs k) = xs.take (k + 1) ++ List.replicate (xs.length - (k + 1)) 0 := by
  rw [List.set_append_right _ _ (by simp; omega), List.take_succ_eq_append_getElem h, atZ_get h, List.length_take, Nat.min_eq_left (by omega), Nat.sub_self,
    show xs.length - k = (xs.length - (k + 1)) + 1 by omega, List.replicate_succ, List.set_cons_zero, List.append_assoc]
  rfl

set_option maxRecDepth 100000 in
theorem toIntS_any (xs : List Int) (v : Value) (w : World) (hv : Seq w v xs) (hlen : xs.length ≤ 1048576) :
    Calls Tryz.prog 30 #[v] w (IntsNew xs w) := by
  obtain ⟨i0, hi0, hz0, hz1, hz2⟩ := info_parts infoInt
  obtain ⟨w2, hmk, hown, hgr⟩ := run_make_full (P := Tryz.prog) w w.heap.size 27 3 i0 _ 1 Tryz.underlying27 hi0 hz0 hz1 .i64 .i64 xs.length (by rw [hz2]; omega) (by unfold maxLen; omega) (Nat.le_refl _)
  have HC := Lib.hid hv
  obtain ⟨A, c, rfl⟩ := seq_form2 hv
  clear hv
  have hb0 : Below w.heap.size w w2 := ⟨hgr.os, hgr.tape, hgr.output, hgr.size, fun k hk => hgr.block k hk (by simp)⟩
  have HB0 := Lib.hid hb0; clear hb0 hgr
  have ho : w2.ownsRow w.heap.size 3 1 (.slice (some ⟨w.heap.size, 0, none⟩) xs.length xs.length) xs.length ((xs.take 0 ++ List.replicate (xs.length - 0) 0).map fun x => .int .i64 x) := by
    have e : (madeCells (Value.int .i64 0).cells (xs.length * 1)).toList = (xs.take 0 ++ List.replicate (xs.length - 0) (0 : Int)).map fun x => Value.int .i64 x := by
      rw [show (Value.int .i64 0).cells = #[.int .i64 0] from rfl, toList_madeCells_one]
      simp
    rw [← e]; exact hown
  have HO := Lib.hid ho; clear ho hown
  clear hi0 hz0 hz1 hz2
  go_enter Tryz.func30, Tryz.ntmps30
  go_wp2_with fail
  clear hmk
  go_loopw [4] (fun i wr => ∃ k : Nat, k ≤ xs.length ∧ i = .int .i64 k ∧ wr.ownsRow w.heap.size 3 1 (.slice (some ⟨w.heap.size, 0, none⟩) xs.length xs.length) xs.length ((xs.take k ++ List.replicate (xs.length - k) 0).map fun x => .int .i64 x) ∧ Below w.heap.size w wr) (fun i _ => xs.length - (intOf i).toNat)
  case atStart => exact ⟨0, Nat.zero_le _, rfl, HO.out, HB0.out⟩
  case round =>
    obtain ⟨k, hk, rfl, hown, hb⟩ := hrel
    have HOWN := Lib.hid hown; clear hown
    have HB := Lib.hid hb; clear hb
    by_cases hlt : k < xs.length
    · obtain ⟨_, _, he, _, _, hcs⟩ := (HC.out.step HB.out).form
      injection he with he1 he2 he3
      obtain ⟨b, o, hA, hbl, hc⟩ := hcs k hlt
      rw [← he1] at hA
      subst hA
      clear he1 he2 he3 hcs
      have hst := HOWN.out.stored k (.int .i64 (atZ xs k))
      have hf : wr.frozen? ⟨w.heap.size, k, none⟩ = false := HOWN.out.frozenAt k
      have hcc : ∃ q, wr.cell? ⟨w.heap.size, k, none⟩ = some (.int .i64 q) := by
        rw [HOWN.out.cellAt k (by omega), List.getElem?_map, List.getElem?_append_right (by simp; omega)]
        exact ⟨0, by simp [List.getElem?_replicate]; omega⟩
      obtain ⟨q, hq⟩ := hcc
      have HST := Lib.hid hst.1; clear hst
      have HS := Lib.hid (filled_set xs k hlt)
      generalize atZ xs k = z at *
      go_wp2_with fail
      refine ⟨⟨k + 1, by omega, by go_num, ?_, HB.out.setCell (Nat.le_refl _) _⟩, by simp [intOf]; omega⟩
      rw [← HS.out, List.map_set]
      exact HST.out
    · have ek : k = xs.length := by omega
      have EK := Lib.hid ek; clear ek
      go_wp2_with fail
      go_ret
      refine ⟨_, rfl, ?_, HB.out⟩
      have := HOWN.out
      rw [EK.out] at this
      unfold Ints
      simpa using this

set_option maxRecDepth 100000 in
theorem eqIntS_seq {w : World} {v1 v2 : Value} {fs : List Int} (h1 : Seq w v1 fs) (h2 : Seq w v2 fs) :
    Calls Tryz.prog 20 #[v1, v2] w fun e w' => e = .returned (.bool true) ∧ ∃ n, w' = w.drewN n := by
  have hmax := h1.len
  obtain ⟨a, ca, rfl, _, _, ha⟩ := h1.form
  obtain ⟨b, cb, rfl, _, _, hb⟩ := h2.form
  have HA := Lib.hid ha; clear ha
  have HB := Lib.hid hb; clear hb
  clear h1 h2
  go_enter Tryz.func20, Tryz.ntmps20
  go_wp2_with fail
  go_loopw [5] (fun i wr => ∃ (k n : Nat), k ≤ fs.length ∧ i = .int .i64 k ∧ wr = w.drewN n) (fun i _ => fs.length - (intOf i).toNat)
  case atStart => exact ⟨0, 0, Nat.zero_le _, rfl, rfl⟩
  case round =>
    obtain ⟨k, n, hk, rfl, rfl⟩ := hrel
    by_cases hlt : k < fs.length
    · obtain ⟨g, o, rfl, _, hc⟩ := HA.out k hlt
      obtain ⟨g', o', rfl, _, hc'⟩ := HB.out k hlt
      go_wp2_with fail
      go_quiet (fail)
      go_wp2_with fail
      refine ⟨⟨k + 1, _, by omega, by go_num, rfl⟩, by simp [intOf]; omega⟩
    · go_wp2_with fail
      go_ret
      exact ⟨rfl, n, rfl⟩
end Go.Proofs.YtepacoacalhdcaaGreat

namespace Go.Proofs.YtepacoacalhdcaaGreat
open Go.RowKit
set_option linter.unusedVariables false
set_option linter.unusedSimpArgs false

/-- d is put into l at place m or ahead of it: behind the first one from there back that lt does not tell after d. -/
def insM (lt : Int → Int → Bool) (d : Int) (l : List Int) : Nat → List Int
  | 0 => d :: l
  | m + 1 => if lt d (atZ l m) = true then insM lt d l m else l.take (m + 1) ++ d :: l.drop (m + 1)

def insL (lt : Int → Int → Bool) (d : Int) (l : List Int) : List Int := insM lt d l l.length

theorem insM_len (lt : Int → Int → Bool) (d : Int) (l : List Int) : ∀ m, m ≤ l.length → (insM lt d l m).length = l.length + 1
  | 0, _ => rfl
  | m + 1, h => by
    unfold insM
    split
    · exact insM_len lt d l m (by omega)
    · simp; omega

theorem insM_mem (lt : Int → Int → Bool) (d : Int) (l : List Int) : ∀ m x, x ∈ insM lt d l m → x = d ∨ x ∈ l
  | 0, x, h => by simpa [insM] using h
  | m + 1, x, h => by
    unfold insM at h
    split at h
    · exact insM_mem lt d l m x h
    · simp only [List.mem_append, List.mem_cons] at h
      rcases h with h | h | h
      · exact .inr (List.mem_of_mem_take h)
      · exact .inl h
      · exact .inr (List.mem_of_mem_drop h)

/-- The list while d is put in: place m is open. -/
def openL (l : List Int) (y : Int) (m : Nat) : List Int := l.take m ++ y :: l.drop m

theorem openL_len (l : List Int) (y : Int) (m : Nat) (h : m ≤ l.length) : (openL l y m).length = l.length + 1 := by simp [openL]; omega

theorem openL_full (l : List Int) (y : Int) : openL l y l.length = l ++ [y] := by simp [openL]

theorem openL_at (l : List Int) (y : Int) (m : Nat) (h : m < l.length) : atZ (openL l y (m + 1)) m = atZ l m := by
  unfold atZ openL
  simp [List.getD, List.getElem?_append, List.getElem?_take, h]
  rw [if_pos (by omega)]
  rfl

theorem openL_set (l : List Int) (y d : Int) (m : Nat) (h : m ≤ l.length) : (openL l y m).set m d = openL l d m := by
  unfold openL
  rw [List.set_append_right _ _ (by simp; omega)]
  simp [Nat.min_eq_left h]

theorem openL_down (l : List Int) (y : Int) (m : Nat) (h : m < l.length) : openL l (atZ l m) (m + 1) = openL l (atZ l m) m := by
  unfold openL
  rw [List.take_succ_eq_append_getElem h, atZ_get h, List.append_assoc, List.drop_eq_getElem_cons h, atZ_get h]
  rfl

theorem insM_zero (lt : Int → Int → Bool) (d : Int) (l : List Int) : insM lt d l 0 = openL l d 0 := by simp [insM, openL]

theorem insM_stop (lt : Int → Int → Bool) (d : Int) (l : List Int) (m : Nat) (h : lt d (atZ l m) = false) : insM lt d l (m + 1) = openL l d (m + 1) := by
  unfold insM openL
  rw [h]; simp

theorem insM_on (lt : Int → Int → Bool) (d : Int) (l : List Int) (m : Nat) (h : lt d (atZ l m) = true) : insM lt d l (m + 1) = insM lt d l m := by
  rw [insM, if_pos h]

/-- Whether dart d comes ahead of dart x around node k. -/
def ltD (ns ls : List Nd) (k : Nat) (d x : Int) : Bool := beforeB (atN ns k) (atI ns (dT ls d.toNat)) (atI ns (dT ls x.toNat))

def aroL (ns ls : List Nd) (k : Nat) : Nat → List Int
  | 0 => []
  | n + 1 => if dF ls n = k then insL (ltD ns ls k) n (aroL ns ls k n) else aroL ns ls k n

theorem aroL_len (ns ls : List Nd) (k : Nat) : ∀ n, (aroL ns ls k n).length ≤ n
  | 0 => Nat.le_refl _
  | n + 1 => by
    have := aroL_len ns ls k n
    unfold aroL
    split
    · unfold insL; rw [insM_len _ _ _ _ (Nat.le_refl _)]; omega
    · omega

theorem aroL_mem (ns ls : List Nd) (k : Nat) : ∀ n x, x ∈ aroL ns ls k n → ∃ d : Nat, x = d ∧ d < n ∧ dF ls d = k
  | 0, x, h => by simp [aroL] at h
  | n + 1, x, h => by
    unfold aroL at h
    split at h
    · rename_i hk
      rcases insM_mem _ _ _ _ _ h with h | h
      · exact ⟨n, h, by omega, hk⟩
      · obtain ⟨d, e, hd, hf⟩ := aroL_mem ns ls k n x h
        exact ⟨d, e, by omega, hf⟩
    · obtain ⟨d, e, hd, hf⟩ := aroL_mem ns ls k n x h
      exact ⟨d, e, by omega, hf⟩

/-- Both ends of a dart of a valid window are places of nodes. -/
theorem dart_nat {ns ls : List Nd} {d : Nat} (hw : winB ns ls = true) (hd : d < 2 * ls.length) : ∃ a b : Nat, dF ls d = a ∧ dT ls d = b ∧ a < ns.length ∧ b < ns.length ∧ a ≠ b := by
  obtain ⟨p, q, e, hpq, hp, hq, _⟩ := leadOkB_spec (((winB_iff ns ls).1 hw).2.2 (d / 2) (by omega)).1
  unfold dF dT
  rw [e]
  by_cases h : d % 2 = 1
  · rw [if_pos h, if_pos h]; exact ⟨q, p, rfl, rfl, hq, hp, by omega⟩
  · rw [if_neg h, if_neg h]; exact ⟨p, q, rfl, rfl, hp, hq, by omega⟩

theorem aroL_at {ns ls : List Nd} {k n m : Nat} (hm : m < (aroL ns ls k n).length) : ∃ d : Nat, atZ (aroL ns ls k n) m = d ∧ d < n ∧ dF ls d = k := by
  have : atZ (aroL ns ls k n) m ∈ aroL ns ls k n := by rw [← atZ_get hm]; exact List.getElem_mem hm
  exact aroL_mem ns ls k n _ this
end Go.Proofs.YtepacoacalhdcaaGreat

namespace Go.Proofs.YtepacoacalhdcaaGreat
open Go.RowKit
set_option linter.unusedVariables false
set_option linter.unusedSimpArgs false

/-- Three boxed nodes in the blocks k, k + 1, k + 2; nothing that was there has turned. -/
def Six (w : World) (a b c : Nd) (W : World) : Prop :=
  (W.cell? ⟨w.heap.size, 0, none⟩ = some (.int .i64 a.x) ∧ W.cell? ⟨w.heap.size, 1, none⟩ = some (.int .i64 a.y)) ∧
  (W.cell? ⟨w.heap.size + 1, 0, none⟩ = some (.int .i64 b.x) ∧ W.cell? ⟨w.heap.size + 1, 1, none⟩ = some (.int .i64 b.y)) ∧
  (W.cell? ⟨w.heap.size + 1 + 1, 0, none⟩ = some (.int .i64 c.x) ∧ W.cell? ⟨w.heap.size + 1 + 1, 1, none⟩ = some (.int .i64 c.y)) ∧ w.heap.size + 1 + 1 < W.heap.size ∧ Below w.heap.size w W

theorem Six.start (w : World) (a b c : Nd) (T : TypeId) : Six w a b c (((w.alloc (.cells #[.int .i64 a.x, .int .i64 a.y] T)).alloc (.cells #[.int .i64 b.x, .int .i64 b.y] T)).alloc (.cells #[.int .i64 c.x, .int .i64 c.y] T)) := by
  refine ⟨⟨?_, ?_⟩, ⟨?_, ?_⟩, ⟨?_, ?_⟩, by simp, below3 w _ _ _⟩ <;> go_simp

theorem Six.step {w W w1 : World} {a b c : Nd} (h : Six w a b c W) (hb : Below W.heap.size W w1) : Six w a b c w1 := by
  obtain ⟨⟨a0, a1⟩, ⟨b0, b1⟩, ⟨c0, c1⟩, hz, hw⟩ := h
  have e0 : w.heap.size < W.heap.size := by omega
  have e1 : w.heap.size + 1 < W.heap.size := by omega
  refine ⟨⟨(hb.cell (p := ⟨_, _, none⟩) e0).trans a0, (hb.cell (p := ⟨_, _, none⟩) e0).trans a1⟩, ⟨(hb.cell (p := ⟨_, _, none⟩) e1).trans b0, (hb.cell (p := ⟨_, _, none⟩) e1).trans b1⟩, ⟨(hb.cell (p := ⟨_, _, none⟩) hz).trans c0, (hb.cell (p := ⟨_, _, none⟩) hz).trans c1⟩, ?_, hw.trans (hb.mono hw.size)⟩
  have := hb.size
  omega

theorem Six.drew {w W : World} {a b c : Nd} (h : Six w a b c W) : Six w a b c W.drew := ⟨h.1, h.2.1, h.2.2.1, h.2.2.2.1, h.2.2.2.2.drew⟩

theorem before_a (a b c : Nd) (w : World) (ha : okB a = false) :
    Calls Tryz.prog 182 #[a.val, b.val, c.val] w (BoolIs false w) := by
  have HA := Lib.hid (specNodeOk a)
  have HB := Lib.hid (specNodeOk b)
  have HC := Lib.hid (specNodeOk c)
  have H0 := Lib.hid (Six.start w a b c 115)
  rw [ha] at HA
  clear ha
  obtain ⟨ax, ay⟩ := a
  obtain ⟨bx, by'⟩ := b
  obtain ⟨cx, cy⟩ := c
  unfold Nd.val
  go_enter Tryz.func182, Tryz.ntmps182
  go_wp2_with fail
  refine (HA.out _).mono ?_
  rintro e w1 ⟨rfl, hb1⟩
  have H1 := Lib.hid (H0.out.step hb1); clear hb1
  obtain ⟨⟨a0, a1⟩, ⟨b0, b1⟩, ⟨c0, c1⟩, _, _⟩ := H1.out
  go_wp2_with fail
  go_ret
  exact ⟨rfl, H1.out.2.2.2.2⟩

theorem before_b (a b c : Nd) (w : World) (ha : okB a = true) (hb : okB b = false) :
    Calls Tryz.prog 182 #[a.val, b.val, c.val] w (BoolIs false w) := by
  have HA := Lib.hid (specNodeOk a)
  have HB := Lib.hid (specNodeOk b)
  have HC := Lib.hid (specNodeOk c)
  have H0 := Lib.hid (Six.start w a b c 115)
  rw [ha] at HA
  rw [hb] at HB
  clear ha hb
  obtain ⟨ax, ay⟩ := a
  obtain ⟨bx, by'⟩ := b
  obtain ⟨cx, cy⟩ := c
  unfold Nd.val
  go_enter Tryz.func182, Tryz.ntmps182
  go_wp2_with fail
  refine (HA.out _).mono ?_
  rintro e w1 ⟨rfl, hb1⟩
  have H1 := Lib.hid (H0.out.step hb1); clear hb1
  obtain ⟨⟨a0, a1⟩, ⟨b0, b1⟩, ⟨c0, c1⟩, _, _⟩ := H1.out
  go_wp2_with fail
  refine (HB.out _).mono ?_
  rintro e w2 ⟨rfl, hb2⟩
  have H2 := Lib.hid (H1.out.step hb2); clear hb2
  obtain ⟨⟨a0, a1⟩, ⟨b0, b1⟩, ⟨c0, c1⟩, _, _⟩ := H2.out
  go_wp2_with fail
  go_ret
  exact ⟨rfl, H2.out.2.2.2.2⟩

theorem before_c (a b c : Nd) (w : World) (ha : okB a = true) (hb : okB b = true) (hc : okB c = false) :
    Calls Tryz.prog 182 #[a.val, b.val, c.val] w (BoolIs false w) := by
  have HA := Lib.hid (specNodeOk a)
  have HB := Lib.hid (specNodeOk b)
  have HC := Lib.hid (specNodeOk c)
  have H0 := Lib.hid (Six.start w a b c 115)
  rw [ha] at HA
  rw [hb] at HB
  rw [hc] at HC
  clear ha hb hc
  obtain ⟨ax, ay⟩ := a
  obtain ⟨bx, by'⟩ := b
  obtain ⟨cx, cy⟩ := c
  unfold Nd.val
  go_enter Tryz.func182, Tryz.ntmps182
  go_wp2_with fail
  refine (HA.out _).mono ?_
  rintro e w1 ⟨rfl, hb1⟩
  have H1 := Lib.hid (H0.out.step hb1); clear hb1
  obtain ⟨⟨a0, a1⟩, ⟨b0, b1⟩, ⟨c0, c1⟩, _, _⟩ := H1.out
  go_wp2_with fail
  refine (HB.out _).mono ?_
  rintro e w2 ⟨rfl, hb2⟩
  have H2 := Lib.hid (H1.out.step hb2); clear hb2
  obtain ⟨⟨a0, a1⟩, ⟨b0, b1⟩, ⟨c0, c1⟩, _, _⟩ := H2.out
  go_wp2_with fail
  refine (HC.out _).mono ?_
  rintro e w3 ⟨rfl, hb3⟩
  have H3 := Lib.hid (H2.out.step hb3); clear hb3
  obtain ⟨⟨a0, a1⟩, ⟨b0, b1⟩, ⟨c0, c1⟩, _, _⟩ := H3.out
  go_wp2_with fail
  go_ret
  exact ⟨rfl, H3.out.2.2.2.2⟩

theorem before_half (a b c : Nd) (w : World) (ha : okB a = true) (hb : okB b = true) (hc : okB c = true) (hne : (halfI a b == halfI a c) = false) :
    Calls Tryz.prog 182 #[a.val, b.val, c.val] w (BoolIs (decide (halfI a b < halfI a c)) w) := by
  have HA := Lib.hid (specNodeOk a)
  have HB := Lib.hid (specNodeOk b)
  have HC := Lib.hid (specNodeOk c)
  have H0 := Lib.hid (Six.start w a b c 115)
  rw [ha] at HA
  rw [hb] at HB
  rw [hc] at HC
  have HH1 := specHalf a b
  have HH2 := specHalf a c
  generalize halfI a b = p at *
  generalize halfI a c = q at *
  clear ha hb hc
  obtain ⟨ax, ay⟩ := a
  obtain ⟨bx, by'⟩ := b
  obtain ⟨cx, cy⟩ := c
  unfold Nd.val
  unfold Nd.val at HH1 HH2
  have HH1 := Lib.hid HH1
  have HH2 := Lib.hid HH2
  go_enter Tryz.func182, Tryz.ntmps182
  go_wp2_with fail
  refine (HA.out _).mono ?_
  rintro e w1 ⟨rfl, hb1⟩
  have H1 := Lib.hid (H0.out.step hb1); clear hb1
  obtain ⟨⟨a0, a1⟩, ⟨b0, b1⟩, ⟨c0, c1⟩, _, _⟩ := H1.out
  go_wp2_with fail
  refine (HB.out _).mono ?_
  rintro e w2 ⟨rfl, hb2⟩
  have H2 := Lib.hid (H1.out.step hb2); clear hb2
  obtain ⟨⟨a0, a1⟩, ⟨b0, b1⟩, ⟨c0, c1⟩, _, _⟩ := H2.out
  go_wp2_with fail
  refine (HC.out _).mono ?_
  rintro e w3 ⟨rfl, hb3⟩
  have H3 := Lib.hid (H2.out.step hb3); clear hb3
  obtain ⟨⟨a0, a1⟩, ⟨b0, b1⟩, ⟨c0, c1⟩, _, _⟩ := H3.out
  go_wp2_with fail
  go_region_held3 (fun w' => w'.cell? ⟨w.heap.size, 0, none⟩ = some (.int .i64 ax) ∧ w'.cell? ⟨w.heap.size, 1, none⟩ = some (.int .i64 ay) ∧ w'.cell? ⟨w.heap.size + 1, 0, none⟩ = some (.int .i64 bx) ∧ w'.cell? ⟨w.heap.size + 1, 1, none⟩ = some (.int .i64 by') ∧ w'.cell? ⟨w.heap.size + 1 + 1, 0, none⟩ = some (.int .i64 cx) ∧ w'.cell? ⟨w.heap.size + 1 + 1, 1, none⟩ = some (.int .i64 cy)) (first | go_keep | (refine ⟨?_, ?_, ?_, ?_, ?_, ?_⟩ <;> assumption)) (first | (go_at_call 202; (first | (with_reducible refine (HH1.out _).mono ?_) | (with_reducible refine (HH2.out _).mono ?_) | fail); rintro e wn ⟨rfl, hbn⟩; (first | (have HNA := Lib.hid (H3.out.drew.step hbn)) | (have HNB := Lib.hid (HNA.out.step hbn)) | fail); clear hbn; (first | (obtain ⟨⟨a0, a1⟩, ⟨b0, b1⟩, ⟨c0, c1⟩, _, _⟩ := HNB.out) | (obtain ⟨⟨a0, a1⟩, ⟨b0, b1⟩, ⟨c0, c1⟩, _, _⟩ := HNA.out) | fail)) | fail)
  have H4 := HNB
  clear HNA HNB H0 H1 H2 H3 a0 a1 b0 b1 c0 c1
  obtain ⟨⟨a0, a1⟩, ⟨b0, b1⟩, ⟨c0, c1⟩, _, _⟩ := H4.out
  go_wp2_with fail
  go_region_held3 (fun w' => w'.cell? ⟨w.heap.size, 0, none⟩ = some (.int .i64 ax) ∧ w'.cell? ⟨w.heap.size, 1, none⟩ = some (.int .i64 ay) ∧ w'.cell? ⟨w.heap.size + 1, 0, none⟩ = some (.int .i64 bx) ∧ w'.cell? ⟨w.heap.size + 1, 1, none⟩ = some (.int .i64 by') ∧ w'.cell? ⟨w.heap.size + 1 + 1, 0, none⟩ = some (.int .i64 cx) ∧ w'.cell? ⟨w.heap.size + 1 + 1, 1, none⟩ = some (.int .i64 cy)) (first | go_keep | (refine ⟨?_, ?_, ?_, ?_, ?_, ?_⟩ <;> assumption)) (first | (go_at_call 202; (first | (with_reducible refine (HH1.out _).mono ?_) | (with_reducible refine (HH2.out _).mono ?_) | fail); rintro e wn ⟨rfl, hbn⟩; (first | (have HNA := Lib.hid (H4.out.drew.step hbn)) | (have HNB := Lib.hid (HNA.out.step hbn)) | fail); clear hbn; (first | (obtain ⟨⟨a0, a1⟩, ⟨b0, b1⟩, ⟨c0, c1⟩, _, _⟩ := HNB.out) | (obtain ⟨⟨a0, a1⟩, ⟨b0, b1⟩, ⟨c0, c1⟩, _, _⟩ := HNA.out) | fail)) | fail)
  go_wp2_with fail
  go_ret
  exact ⟨rfl, HNB.out.2.2.2.2⟩

theorem before_turn (a b c : Nd) (w : World) (ha : okB a = true) (hb : okB b = true) (hc : okB c = true) (hne : (halfI a b == halfI a c) = true) :
    Calls Tryz.prog 182 #[a.val, b.val, c.val] w (BoolIs (decide (0 < turnI a b c)) w) := by
  have HA := Lib.hid (specNodeOk a)
  have HB := Lib.hid (specNodeOk b)
  have HC := Lib.hid (specNodeOk c)
  have H0 := Lib.hid (Six.start w a b c 115)
  rw [ha] at HA
  rw [hb] at HB
  rw [hc] at HC
  have HH1 := specHalf a b
  have HH2 := specHalf a c
  generalize halfI a b = p at *
  generalize halfI a c = q at *
  have HT := Lib.hid (fun w => specTurn a b c w ha hb hc)
  generalize turnI a b c = t at *
  clear ha hb hc
  obtain rfl : p = q := by simpa using hne
  clear hne
  obtain ⟨ax, ay⟩ := a
  obtain ⟨bx, by'⟩ := b
  obtain ⟨cx, cy⟩ := c
  unfold Nd.val
  unfold Nd.val at HH1 HH2
  have HH1 := Lib.hid HH1
  have HH2 := Lib.hid HH2
  go_enter Tryz.func182, Tryz.ntmps182
  go_wp2_with fail
  refine (HA.out _).mono ?_
  rintro e w1 ⟨rfl, hb1⟩
  have H1 := Lib.hid (H0.out.step hb1); clear hb1
  obtain ⟨⟨a0, a1⟩, ⟨b0, b1⟩, ⟨c0, c1⟩, _, _⟩ := H1.out
  go_wp2_with fail
  refine (HB.out _).mono ?_
  rintro e w2 ⟨rfl, hb2⟩
  have H2 := Lib.hid (H1.out.step hb2); clear hb2
  obtain ⟨⟨a0, a1⟩, ⟨b0, b1⟩, ⟨c0, c1⟩, _, _⟩ := H2.out
  go_wp2_with fail
  refine (HC.out _).mono ?_
  rintro e w3 ⟨rfl, hb3⟩
  have H3 := Lib.hid (H2.out.step hb3); clear hb3
  obtain ⟨⟨a0, a1⟩, ⟨b0, b1⟩, ⟨c0, c1⟩, _, _⟩ := H3.out
  go_wp2_with fail
  go_region_held3 (fun w' => w'.cell? ⟨w.heap.size, 0, none⟩ = some (.int .i64 ax) ∧ w'.cell? ⟨w.heap.size, 1, none⟩ = some (.int .i64 ay) ∧ w'.cell? ⟨w.heap.size + 1, 0, none⟩ = some (.int .i64 bx) ∧ w'.cell? ⟨w.heap.size + 1, 1, none⟩ = some (.int .i64 by') ∧ w'.cell? ⟨w.heap.size + 1 + 1, 0, none⟩ = some (.int .i64 cx) ∧ w'.cell? ⟨w.heap.size + 1 + 1, 1, none⟩ = some (.int .i64 cy)) (first | go_keep | (refine ⟨?_, ?_, ?_, ?_, ?_, ?_⟩ <;> assumption)) (first | (go_at_call 202; (first | (with_reducible refine (HH1.out _).mono ?_) | (with_reducible refine (HH2.out _).mono ?_) | fail); rintro e wn ⟨rfl, hbn⟩; (first | (have HNA := Lib.hid (H3.out.drew.step hbn)) | (have HNB := Lib.hid (HNA.out.step hbn)) | fail); clear hbn; (first | (obtain ⟨⟨a0, a1⟩, ⟨b0, b1⟩, ⟨c0, c1⟩, _, _⟩ := HNB.out) | (obtain ⟨⟨a0, a1⟩, ⟨b0, b1⟩, ⟨c0, c1⟩, _, _⟩ := HNA.out) | fail)) | fail)
  have H4 := HNB
  clear HNA HNB H0 H1 H2 H3 a0 a1 b0 b1 c0 c1
  obtain ⟨⟨a0, a1⟩, ⟨b0, b1⟩, ⟨c0, c1⟩, _, _⟩ := H4.out
  go_wp2_with fail
  refine (HT.out _).mono ?_
  rintro e w5 ⟨rfl, hb5⟩
  have H5 := Lib.hid (H4.out.step hb5); clear hb5
  go_wp2_with fail
  go_ret
  exact ⟨rfl, H5.out.2.2.2.2⟩

theorem specBefore (a b c : Nd) (w : World) :
    Calls Tryz.prog 182 #[a.val, b.val, c.val] w (BoolIs (beforeB a b c) w) := by
  unfold beforeB
  cases ha : okB a
  · simpa using before_a a b c w ha
  cases hb : okB b
  · simpa using before_b a b c w ha hb
  cases hc : okB c
  · simpa using before_c a b c w ha hb hc
  by_cases h : halfI a b = halfI a c
  · rw [if_pos h]; simpa using before_turn a b c w ha hb hc (by simpa using h)
  · rw [if_neg h]; simpa using before_half a b c w ha hb hc (by simpa using h)
end Go.Proofs.YtepacoacalhdcaaGreat

namespace Go.Proofs.YtepacoacalhdcaaGreat
open Go.RowKit
set_option linter.unusedVariables false
set_option linter.unusedSimpArgs false

/-- v points to a block of n cells of type T that was made since W0. -/
def NewB (W0 : World) (T : TypeId) (n : Nat) (v : Value) (W : World) : Prop := ∃ b cs, v = .pointer (some ⟨b, 0, none⟩) ∧ W0.heap.size ≤ b ∧ W.heap[b]? = some (.cells cs T (0, 0)) ∧ cs.size = n

def FullB (W0 : World) (T : TypeId) (cells : Array Value) (v : Value) (W : World) : Prop := ∃ b, v = .pointer (some ⟨b, 0, none⟩) ∧ W0.heap.size ≤ b ∧ W.heap[b]? = some (.cells cells T (0, 0))

theorem stable_newB (W0 : World) (T : TypeId) (n : Nat) (v : Value) : Stable fun W => NewB W0 T n v W := fun _ _ ⟨b, cs, h1, h2, h3, h4⟩ hb => ⟨b, cs, h1, h2, (hb.block b (lt_of_block h3)).trans h3, h4⟩

theorem stable_fullB (W0 : World) (T : TypeId) (cells : Array Value) (v : Value) : Stable fun W => FullB W0 T cells v W := fun _ _ ⟨b, h1, h2, h3⟩ hb => ⟨b, h1, h2, (hb.block b (lt_of_block h3)).trans h3⟩

section

variable {P : Program} {ops : Array Oper} {Q : Exit → Act → World → Prop} {md : Region.Mode}

theorem freeR_new {W0 w : World} {T : TypeId} {n : Nat} {r : Result Next} {cs : Array Value} (h : r = .ok (.value (.pointer (some ⟨w.heap.size, 0, none⟩))) (w.alloc (.cells cs T))) (hw : W0.heap.size ≤ w.heap.size) (hn : cs.size = n) : FreeR P (NewB W0 T n) w r := by
  subst h
  exact ⟨⟨_, _, rfl, hw, heap_alloc_new w _, hn⟩, (Below.refl _ _).alloc (Nat.le_refl _) _⟩

theorem allocV {l rest : List Oper} {i : Nat} {oi : Oper} {fuel : Nat} {listed : Array Bool} {a : Act} {W0 : World} {fs : List (Nat × Nat × Value)} (T : TypeId) (cs : Array Value) (hi : l.drop i = oi :: rest)
    (hr : Region.ready md l.toArray listed = [i]) (hw : Region.wanted oi (yielded l.toArray a.tmps) = true) (hy : ∀ W, (execOp a.eval oi).run P W = .ok (.value (.pointer (some ⟨W.heap.size, 0, none⟩))) (W.alloc (.cells cs T)))
    (h : ∀ v, wpAnyW P md l.toArray Q fuel (listed.setIfInBounds i true) (a.put oi.dst v) (fun W => Held W0 W fs ∧ NewB W0 T cs.size v W)) : wpAnyW P md l.toArray Q (fuel + 1) listed a (fun W => Held W0 W fs) :=
  freeW (NewB W0 T cs.size) (Stable.held _ _) (fun v => stable_newB _ _ _ v) hi hr hw (fun W hS => freeR_new (hy W) hS.2.2.size rfl) h

def EffR (v : Value) (G R : World → Prop) : Result Next → Prop
  | .ok (.value u) w' => u = v ∧ G w' ∧ R w'
  | .ok .skip w' => v = undef ∧ G w' ∧ R w'
  | _ => False

theorem effW {l rest : List Oper} {i : Nat} {oi : Oper} {v : Value} {fuel : Nat} {listed : Array Bool} {a : Act} {G : World → Prop} (R : World → Prop) (hst : Stable G) (hR : Stable R) (hi : l.drop i = oi :: rest)
    (hr : Region.ready md l.toArray listed = [i]) (hw : Region.wanted oi (yielded l.toArray a.tmps) = true) (hy : ∀ w, G w → EffR v G R ((execOp a.eval oi).run P w))
    (h : wpAnyW P md l.toArray Q fuel (listed.setIfInBounds i true) (a.put oi.dst v) (fun x => G x ∧ R x)) : wpAnyW P md l.toArray Q (fuel + 1) listed a G := by
  refine ⟨fun h0 => (by rw [hr] at h0; cases h0), fun j hj w hG => ?_⟩
  rw [hr] at hj
  obtain rfl : j = i := by simpa using hj
  unfold wpOp
  simp only [get_of_drop hi, hw, if_true]
  refine .inl ?_
  unfold Oper.wp
  have hd := hy w hG
  generalize (execOp a.eval oi).run P w = r at *
  cases r with
  | ok n w' =>
    cases n <;> simp only [EffR] at hd <;> simp only [Oper.upon]
    case value u => obtain ⟨rfl, h1, h2⟩ := hd; exact ⟨_, hst.and hR, fun _ hx => hx.1, ⟨h1, h2⟩, h⟩
    case skip => obtain ⟨rfl, h1, h2⟩ := hd; exact ⟨_, hst.and hR, fun _ hx => hx.1, ⟨h1, h2⟩, h⟩
  | halt x w' => simp [EffR] at hd

theorem Bs.lt {n : Nat} : ∀ {fs : List (Nat × Nat × Value)} {b o : Nat} {v : Value}, Bs n fs → (b, o, v) ∈ fs → b < n
  | (b', o', v') :: fs, b, o, v, h, hm => by
    rcases List.mem_cons.1 hm with e | hm
    · injection e with e1 _; rw [e1]; exact h.1
    · exact Bs.lt h.2 hm

theorem Held.setRow {W0 W : World} {fs : List (Nat × Nat × Value)} {b : Nat} (h : Held W0 W fs) (hB : Bs W0.heap.size fs) (hb : W0.heap.size ≤ b) (cs : Array Value) : Held W0 (W.setRow b cs) fs :=
  ⟨h.1.keep hB fun b' o hlt => World.cell?_of_block (setRow_other W b b' cs (by omega)), by rw [show (W.setRow b cs).heap.size = W.heap.size from by simp [World.setRow]]; exact h.2.1,
    h.2.2.trans ⟨rfl, rfl, rfl, by simp [World.setRow], fun k hk => setRow_other W b k cs (by omega)⟩⟩

theorem Held.after {w W0 W : World} {fs gs : List (Nat × Nat × Value)} (h0 : Held w W0 gs) (h : Held W0 W fs) : Held w W fs := ⟨h.1, h.2.1, h0.2.2.trans (h.2.2.mono h0.2.2.size)⟩

theorem Held.joined {w W0 W : World} {fs gs : List (Nat × Nat × Value)} {b : Nat} {x y : Value} {T : TypeId} (h0 : Held w W0 gs) (h : Held W0 W fs) (hc : W.heap[b]? = some (.cells #[x, y] T (0, 0))) : Held w W ((b, 0, x) :: (b, 1, y) :: fs) :=
  ⟨⟨by rw [cell_of_cells hc]; rfl, by rw [cell_of_cells hc]; rfl, h.1⟩, ⟨lt_of_block hc, lt_of_block hc, h.2.1⟩, (h0.after h).2.2⟩

theorem effR_store {ρ : Operand → Value} {o : Oper} {ty : TypeId} {x y : Operand} (ho : o.op = .store ty x y) {W0 W : World} {T : TypeId} {v : Value} {cells : Array Value} {fs : List (Nat × Nat × Value)} (hx : ρ x = v) (hy : ρ y = .agg cells)
    (hH : Held W0 W fs) (hB : Bs W0.heap.size fs) (hn : NewB W0 T cells.size v W) (hi : (P.info? ty).map (·.size) = some cells.size) (h1 : cells.all (·.oneCell') = true) :
    EffR undef (fun W => Held W0 W fs ∧ NewB W0 T cells.size v W) (fun W => FullB W0 T cells v W) ((execOp ρ o).run P W) := by
  obtain ⟨b, cs, rfl, hb, hc, hs⟩ := hn
  unfold execOp
  simp only [ho, hx, hy, Instr.storeAt, Instr.sureAddr, Sem.run_bind, Sem.run_pure, Result.andThen_ok, run_storeVar_row W b T ty cs cells hc hi hs h1]
  exact ⟨rfl, ⟨hH.setRow hB hb _, b, _, rfl, hb, setRow_heap W b cs cells T _ hc, rfl⟩, b, rfl, hb, setRow_heap W b cs cells T _ hc⟩

theorem storeV {l rest : List Oper} {i : Nat} {oi : Oper} {fuel : Nat} {listed : Array Bool} {a : Act} {W0 : World} {T : TypeId} {v1 : Value} {fs : List (Nat × Nat × Value)} {ty : TypeId} {x y : Operand} {n : Nat} (cells : Array Value)
    (hi : l.drop i = oi :: rest) (hr : Region.ready md l.toArray listed = [i]) (hw : Region.wanted oi (yielded l.toArray a.tmps) = true) (ho : oi.op = .store ty x y) (hx : a.eval x = v1) (hy : a.eval y = .agg cells)
    (hB : Bs W0.heap.size fs) (hn : cells.size = n) (hinfo : (P.info? ty).map (·.size) = some cells.size) (h1 : cells.all (·.oneCell') = true)
    (h : wpAnyW P md l.toArray Q fuel (listed.setIfInBounds i true) (a.put oi.dst undef) (fun W => (Held W0 W fs ∧ NewB W0 T n v1 W) ∧ FullB W0 T cells v1 W)) :
    wpAnyW P md l.toArray Q (fuel + 1) listed a (fun W => Held W0 W fs ∧ NewB W0 T n v1 W) := by
  subst hn
  exact effW (fun W => FullB W0 T cells v1 W) (Stable.and (Stable.held _ _) (stable_newB _ _ _ _)) (stable_fullB _ _ _ _) hi hr hw (fun W hS => effR_store ho hx hy hS.1 hB hS.2 hinfo h1) h

end
end Go.Proofs.YtepacoacalhdcaaGreat

namespace Go.Proofs.YtepacoacalhdcaaGreat
open Go.RowKit
set_option linter.unusedVariables false
set_option linter.unusedSimpArgs false

/-- The numbers before n at which p holds. -/
def fltN (p : Nat → Bool) : Nat → List Int
  | 0 => []
  | n + 1 => if p n = true then fltN p n ++ [(n : Int)] else fltN p n

theorem fltN_mem (p : Nat → Bool) : ∀ n x, x ∈ fltN p n ↔ ∃ i : Nat, x = i ∧ i < n ∧ p i = true
  | 0, x => by simp [fltN]
  | n + 1, x => by
    have ih := fltN_mem p n x
    unfold fltN
    split
    · rename_i hp
      rw [List.mem_append, ih]
      constructor
      · rintro (⟨i, e, hi, h⟩ | h)
        · exact ⟨i, e, by omega, h⟩
        · exact ⟨n, by simpa using h, by omega, hp⟩
      · rintro ⟨i, e, hi, h⟩
        by_cases hin : i = n
        · subst hin; exact .inr (by simpa using e)
        · exact .inl ⟨i, e, by omega, h⟩
    · rename_i hp
      rw [ih]
      constructor
      · rintro ⟨i, e, hi, h⟩; exact ⟨i, e, by omega, h⟩
      · rintro ⟨i, e, hi, h⟩
        refine ⟨i, e, ?_, h⟩
        by_cases hin : i = n
        · subst hin; exact absurd h hp
        · omega

theorem fltN_len (p : Nat → Bool) : ∀ n, (fltN p n).length ≤ n
  | 0 => Nat.le_refl _
  | n + 1 => by
    have := fltN_len p n
    unfold fltN
    split
    · simp; omega
    · omega

theorem fltN_asc (p : Nat → Bool) : ∀ n, (fltN p n).Pairwise (· < ·)
  | 0 => List.Pairwise.nil
  | n + 1 => by
    have ih := fltN_asc p n
    unfold fltN
    split
    · rw [List.pairwise_append]
      refine ⟨ih, by simp, fun a ha b hb => ?_⟩
      obtain ⟨i, rfl, hi, _⟩ := (fltN_mem p n a).1 ha
      obtain rfl : b = n := by simpa using hb
      omega
    · exact ih

theorem asc_ext : ∀ {l m : List Int}, l.Pairwise (· < ·) → m.Pairwise (· < ·) → (∀ x, x ∈ l ↔ x ∈ m) → l = m
  | [], [], _, _, _ => rfl
  | [], b :: t, _, _, h => by have := (h b).2 (by simp); simp at this
  | a :: s, [], _, _, h => by have := (h a).1 (by simp); simp at this
  | a :: s, b :: t, hl, hm, h => by
    obtain ⟨ha, hs⟩ := List.pairwise_cons.1 hl
    obtain ⟨hb, ht⟩ := List.pairwise_cons.1 hm
    have hab : a = b := by
      have h1 := (h a).1 (by simp)
      have h2 := (h b).2 (by simp)
      rcases List.mem_cons.1 h1 with e | h1
      · exact e
      · rcases List.mem_cons.1 h2 with e | h2
        · exact e.symm
        · have := ha b h2; have := hb a h1; omega
    subst hab
    congr 1
    refine asc_ext hs ht fun x => ⟨fun hx => ?_, fun hx => ?_⟩
    · have := (h x).1 (List.mem_cons_of_mem _ hx)
      rcases List.mem_cons.1 this with e | h2
      · have := ha x hx; omega
      · exact h2
    · have := (h x).2 (List.mem_cons_of_mem _ hx)
      rcases List.mem_cons.1 this with e | h2
      · have := hb x hx; omega
      · exact h2

theorem nodup_le : ∀ (n : Nat) (l : List Int), l.Nodup → (∀ x ∈ l, ∃ q : Nat, x = q ∧ q < n) → l.length ≤ n
  | 0, l, _, h => by
    cases l with
    | nil => simp
    | cons a t => obtain ⟨q, _, hq⟩ := h a (by simp); omega
  | n + 1, l, hn, h => by
    have ih := nodup_le n (l.erase (n : Int)) (hn.erase _) (fun x hx => by
      rw [hn.mem_erase_iff] at hx
      obtain ⟨q, e, hq⟩ := h x hx.2
      exact ⟨q, e, by have := hx.1; omega⟩)
    by_cases hm : (n : Int) ∈ l
    · rw [List.length_erase_of_mem hm] at ih; omega
    · rw [List.erase_of_not_mem hm] at ih; omega

/-- The label of node i behind the first k leads: each lead levels the labels of its ends. -/
def lab (ls : List Nd) : Nat → Nat → Nat
  | 0, i => i
  | k + 1, i => if lab ls k i = max (lab ls k (atN ls k).x.toNat) (lab ls k (atN ls k).y.toNat) then min (lab ls k (atN ls k).x.toNat) (lab ls k (atN ls k).y.toNat) else lab ls k i

theorem lab_le (ls : List Nd) : ∀ k i, lab ls k i ≤ i
  | 0, i => Nat.le_refl _
  | k + 1, i => by
    have h1 := lab_le ls k i
    unfold lab
    split
    · omega
    · exact h1

theorem lab_lab (ls : List Nd) : ∀ k i, lab ls k (lab ls k i) = lab ls k i
  | 0, i => rfl
  | k + 1, i => by
    have ih := lab_lab ls k
    have e : ∀ x, lab ls (k + 1) x = if lab ls k x = max (lab ls k (atN ls k).x.toNat) (lab ls k (atN ls k).y.toNat) then min (lab ls k (atN ls k).x.toNat) (lab ls k (atN ls k).y.toNat) else lab ls k x := fun x => rfl
    have ha := ih (atN ls k).x.toNat
    have hb := ih (atN ls k).y.toNat
    have hi := ih i
    simp only [e]
    generalize lab ls k (atN ls k).x.toNat = a at *
    generalize lab ls k (atN ls k).y.toNat = b at *
    generalize hq : lab ls k i = q at *
    have hm : lab ls k (min a b) = min a b := by
      rcases Nat.le_total a b with h | h
      · rw [Nat.min_eq_left h]; exact ha
      · rw [Nat.min_eq_right h]; exact hb
    by_cases h1 : q = max a b
    · rw [if_pos h1, hm]
      split <;> rfl
    · rw [if_neg h1, hi, if_neg h1]

theorem lab_lead (ls : List Nd) : ∀ k j, j < k → lab ls k (atN ls j).x.toNat = lab ls k (atN ls j).y.toNat
  | k + 1, j, h => by
    have e : ∀ x, lab ls (k + 1) x = if lab ls k x = max (lab ls k (atN ls k).x.toNat) (lab ls k (atN ls k).y.toNat) then min (lab ls k (atN ls k).x.toNat) (lab ls k (atN ls k).y.toNat) else lab ls k x := fun x => rfl
    by_cases hj : j = k
    · subst hj
      rw [e, e]
      generalize lab ls j (atN ls j).x.toNat = a
      generalize lab ls j (atN ls j).y.toNat = b
      split <;> split <;> omega
    · rw [e, e, lab_lead ls k j (by omega)]

/-- What is in S with one end of a lead has the other end too. -/
def Closed (ls : List Nd) (S : List Int) (x : Int) (n : Nat) : Prop := ∀ j, j < n → 0 ≤ otherI (atN ls j) x → otherI (atN ls j) x ∈ S

/-- A list on its way: it begins with q, holds nodes joined with q alone, none twice, and the first i of them are done with. -/
structure Way (ns ls : List Nd) (q : Nat) (S : List Int) (i : Nat) : Prop where
  mem : (q : Int) ∈ S
  nodup : S.Nodup
  node : ∀ x ∈ S, ∃ p : Nat, x = p ∧ p < ns.length ∧ lab ls ls.length p = lab ls ls.length q
  done : ∀ j, j < i → Closed ls S (atZ S j) ls.length

theorem Closed.more {ls : List Nd} {S : List Int} {x : Int} {n : Nat} (h : Closed ls S x n) (y : Int) : Closed ls (S ++ [y]) x n := fun j hj h0 => List.mem_append_left _ (h j hj h0)

theorem atZ_more {S : List Int} {y : Int} {j : Nat} (h : j < S.length) : atZ (S ++ [y]) j = atZ S j := by
  unfold atZ
  simp [List.getD, List.getElem?_append, h]

theorem Way.len {ns ls : List Nd} {q i : Nat} {S : List Int} (h : Way ns ls q S i) : S.length ≤ ns.length := nodup_le _ _ h.nodup fun x hx => by
  obtain ⟨p, e, hp, _⟩ := h.node x hx
  exact ⟨p, e, hp⟩

theorem Way.start {ns ls : List Nd} {q : Nat} (hq : q < ns.length) : Way ns ls q [(q : Int)] 0 :=
  ⟨by simp, by simp, fun x hx => ⟨q, by simpa using hx, hq, rfl⟩, fun j hj => by omega⟩

theorem Way.put {ns ls : List Nd} {q i : Nat} {S : List Int} {y : Int} (h : Way ns ls q S i) (hi : i ≤ S.length) (hy : y ∉ S) (hn : ∃ p : Nat, y = p ∧ p < ns.length ∧ lab ls ls.length p = lab ls ls.length q) : Way ns ls q (S ++ [y]) i :=
  ⟨List.mem_append_left _ h.mem, by rw [List.nodup_append]; exact ⟨h.nodup, by simp, fun a ha b hb e => by obtain rfl : b = y := (by simpa using hb); exact hy (e ▸ ha)⟩,
   fun x hx => by
    rcases List.mem_append.1 hx with hx | hx
    · exact h.node x hx
    · obtain rfl : x = y := by simpa using hx
      exact hn,
   fun j hj => by rw [atZ_more (by omega)]; exact (h.done j hj).more y⟩

theorem Way.next {ns ls : List Nd} {q i : Nat} {S : List Int} (h : Way ns ls q S i) (hc : Closed ls S (atZ S i) ls.length) : Way ns ls q S (i + 1) :=
  ⟨h.mem, h.nodup, h.node, fun j hj => by
    by_cases e : j = i
    · subst e; exact hc
    · exact h.done j (by omega)⟩

/-- The other end of a lead is a node, and joined. -/
theorem other_lab {ns ls : List Nd} (hw : winB ns ls = true) {j p : Nat} (hj : j < ls.length) (h0 : 0 ≤ otherI (atN ls j) p) :
    ∃ r : Nat, otherI (atN ls j) p = r ∧ r < ns.length ∧ lab ls ls.length r = lab ls ls.length p ∧ ((atN ls j).x = p ∧ (atN ls j).y = r ∨ (atN ls j).x = r ∧ (atN ls j).y = p) := by
  have hl := lab_lead ls ls.length j hj
  obtain ⟨a, b, e, hab, ha, hb, _⟩ := leadOkB_spec (((winB_iff ns ls).1 hw).2.2 j hj).1
  rw [e] at hl h0 ⊢
  simp only [Int.toNat_natCast] at hl
  unfold otherI at h0 ⊢
  simp only at h0 ⊢
  by_cases h1 : (p : Int) = (a : Int)
  · obtain rfl : p = a := by omega
    exact ⟨b, by simp, hb, hl.symm, .inl ⟨rfl, rfl⟩⟩
  · by_cases h2 : (p : Int) = (b : Int)
    · obtain rfl : p = b := by omega
      exact ⟨a, by rw [if_neg h1]; simp, ha, hl, .inr ⟨rfl, rfl⟩⟩
    · rw [if_neg h1, if_neg h2] at h0; omega

/-- A list that is done with has just the nodes that have one label. -/
theorem Way.all {ns ls : List Nd} {q : Nat} {S : List Int} (hw : winB ns ls = true) (h : Way ns ls q S S.length) {p : Nat} (hp : p < ns.length) : (p : Int) ∈ S ↔ lab ls ls.length p = lab ls ls.length q := by
  constructor
  · intro hm
    obtain ⟨r, e, _, hl⟩ := h.node _ hm
    obtain rfl : p = r := by omega
    exact hl
  · have key : ∀ k, k ≤ ls.length → ∀ a b : Nat, a < ns.length → b < ns.length → lab ls k a = lab ls k b → ((a : Int) ∈ S → (b : Int) ∈ S) := by
      intro k
      induction k with
      | zero => intro _ a b _ _ e hm; obtain rfl : a = b := e; exact hm
      | succ k ih =>
        intro hk a b ha hb e hm
        have ihk := ih (by omega)
        obtain ⟨x, y, el, hxy, hx, hy, _⟩ := leadOkB_spec (((winB_iff ns ls).1 hw).2.2 k (by omega)).1
        have step : ∀ u v : Nat, ((atN ls k).x = (u : Int) ∧ (atN ls k).y = (v : Int) ∨ (atN ls k).x = (v : Int) ∧ (atN ls k).y = (u : Int)) → (u : Int) ∈ S → (v : Int) ∈ S := by
          intro u v huv hu
          obtain ⟨i, hi, hat⟩ := List.getElem_of_mem hu
          have hz : atZ S i = (u : Int) := by rw [← atZ_get hi, hat]
          have hc := h.done i hi k (by omega)
          rw [hz] at hc
          have ho : otherI (atN ls k) u = v := by
            unfold otherI
            rcases huv with ⟨e1, e2⟩ | ⟨e1, e2⟩
            · rw [if_pos e1.symm]; exact e2
            · by_cases huv' : (u : Int) = (atN ls k).x
              · rw [if_pos huv']; omega
              · rw [if_neg huv', if_pos e2.symm]; exact e1
          rw [ho] at hc
          exact hc (by omega)
        have sxy : (x : Int) ∈ S → (y : Int) ∈ S := step x y (.inl ⟨by rw [el], by rw [el]⟩)
        have syx : (y : Int) ∈ S → (x : Int) ∈ S := step y x (.inr ⟨by rw [el], by rw [el]⟩)
        have ee : ∀ i, lab ls (k + 1) i = if lab ls k i = max (lab ls k x) (lab ls k y) then min (lab ls k x) (lab ls k y) else lab ls k i := fun i => by
          rw [lab, el]; simp only [Int.toNat_natCast]
        rw [ee, ee] at e
        by_cases e0 : lab ls k a = lab ls k b
        · exact ihk a b ha hb e0 hm
        · have ax := ihk a x ha hx
          have ay := ihk a y ha hy
          have xb := ihk x b hx hb
          have yb := ihk y b hy hb
          generalize lab ls k a = la at *
          generalize lab ls k b = lb at *
          generalize lab ls k x = lx at *
          generalize lab ls k y = ly at *
          by_cases h1 : la = max lx ly
          · rw [if_pos h1] at e
            by_cases h2 : lb = max lx ly
            · omega
            · rw [if_neg h2] at e
              rcases Nat.le_total lx ly with hle | hle
              · exact xb (by omega) (syx (ay (by omega) hm))
              · exact yb (by omega) (sxy (ax (by omega) hm))
          · rw [if_neg h1] at e
            by_cases h2 : lb = max lx ly
            · rw [if_pos h2] at e
              rcases Nat.le_total lx ly with hle | hle
              · exact yb (by omega) (sxy (ax (by omega) hm))
              · exact xb (by omega) (syx (ay (by omega) hm))
            · rw [if_neg h2] at e; exact absurd e e0
    intro e
    obtain ⟨r, er, hr, _⟩ := h.node _ h.mem
    exact key ls.length (Nat.le_refl _) q p (by omega) hp e.symm h.mem

def partL (ns ls : List Nd) (q : Nat) : List Int := fltN (fun p => decide (lab ls ls.length p = lab ls ls.length q)) ns.length

theorem Way.sorted {ns ls : List Nd} {q : Nat} {S : List Int} (hw : winB ns ls = true) (h : Way ns ls q S S.length) : S.mergeSort (fun x y => decide (x ≤ y)) = partL ns ls q := by
  have hp := List.mergeSort_perm S (fun x y => decide (x ≤ y))
  have hs : (S.mergeSort (fun x y => decide (x ≤ y))).Pairwise (fun a b => a ≤ b) := by
    have := List.pairwise_mergeSort (le := fun x y : Int => decide (x ≤ y)) (by simp; omega) (by simp; omega) S
    simpa using this
  have hn : (S.mergeSort (fun x y => decide (x ≤ y))).Nodup := hp.nodup_iff.2 h.nodup
  refine asc_ext ?_ (fltN_asc _ _) fun x => ?_
  · have := List.Pairwise.and hs hn
    exact this.imp fun ⟨h1, h2⟩ => by omega
  · rw [hp.mem_iff]
    unfold partL
    rw [fltN_mem]
    constructor
    · intro hx
      obtain ⟨p, e, hp, hl⟩ := h.node x hx
      exact ⟨p, e, hp, by simpa using hl⟩
    · rintro ⟨p, rfl, hp, hl⟩
      exact (h.all hw hp).2 (by simpa using hl)
end Go.Proofs.YtepacoacalhdcaaGreat
