/-
  Darts: which there are, where they begin and end, of the model and of the program.
-/
import Derived.Test.YtghpbdgghliieacLAt
import Derived.Test.YtghpbdgghliieacLBet
namespace Go.Proofs.Ytghpbdgghliieac
open Go.RowKit
set_option linter.unusedVariables false
set_option linter.unusedSimpArgs false

def hasDB (ns ls : List Nd) (d : Int) : Bool := winB ns ls && idxB (2 * ls.length) d
/-- Where dart d begins and ends. -/
def dF (ls : List Nd) (d : Nat) : Int := if d % 2 = 1 then (atN ls (d / 2)).y else (atN ls (d / 2)).x
def dT (ls : List Nd) (d : Nat) : Int := if d % 2 = 1 then (atN ls (d / 2)).x else (atN ls (d / 2)).y
def fromI (ns ls : List Nd) (d : Int) : Int := if hasDB ns ls d = true then dF ls d.toNat else -1
def toI (ns ls : List Nd) (d : Int) : Int := if hasDB ns ls d = true then dT ls d.toNat else -1
def dbetI (ns ls : List Nd) (a b : Int) : Int := if betI ns ls a b < 0 then -1 else if a < b then 2 * betI ns ls a b else 2 * betI ns ls a b + 1
def TwoIs (a b : Int) (w : World) (e : Ending) (w' : World) : Prop := e = .returned (.tuple #[.int .i64 a, .int .i64 b]) ∧ Below w.heap.size w w'
theorem hasDB_nat {ns ls : List Nd} {d : Int} (h : hasDB ns ls d = true) : ∃ k : Nat, d = k ∧ k < 2 * ls.length ∧ ls.length ≤ 20 ∧ winB ns ls = true := by
  unfold hasDB at h
  simp only [Bool.and_eq_true] at h
  have h2 := (idxB_iff _ _).1 h.2
  have h3 := ((winB_iff ns ls).1 h.1).1.2
  exact ⟨d.toNat, by omega, by omega, h3, h.1⟩

theorem dHas (A1 A2 : Option Addr) (n1 c1 n2 c2 : Nat) (d : Int) (w : World) (hn : n2 ≤ 4000000000000000000) :
    Calls Try.prog 92 #[.agg #[.slice A1 n1 c1, .slice A2 n2 c2], .int .i64 d] w (BoolIs (idxB (2 * n2) d) w) := by
  have hr : idxB (2 * n2) d = decide (0 ≤ d ∧ d < 2 * (n2 : Int)) := by rw [Bool.eq_iff_iff, idxB_iff]; simp
  generalize idxB (2 * n2) d = r at *
  have HR := Lib.hid hr; clear hr
  go_enter Try.func92, Try.ntmps92
  go_wp2
  all_goals
    go_ret
    exact ⟨ret_bool (by rw [HR.out, Bool.eq_iff_iff]; simp; omega), (Below.refl _ _).alloc (Nat.le_refl _) _⟩

set_option maxRecDepth 100000 in
set_option maxHeartbeats 400000 in
theorem dEnds (ls : List Nd) (vn vl : Value) (d : Nat) (w : World) (hl : Prs w vl ls) (hd : d < 2 * ls.length) (h20 : ls.length ≤ 20) :
    Calls Try.prog 97 #[.agg #[vn, vl], .int .i64 d] w (TwoIs (dF ls d) (dT ls d) w) := by
  have HL := Lib.hid hl
  obtain ⟨A2, c2, rfl⟩ := prs_form2 hl
  obtain ⟨b, o, c', he, hbl, hcs⟩ := prs_at2 hl (k := d / 2) (by omega)
  injection he with he1 he2 he3
  subst he1
  clear he2 he3 hl
  have hX : dF ls d = (if d % 2 = 1 then (atN ls (d / 2)).y else (atN ls (d / 2)).x) := rfl
  have hY : dT ls d = (if d % 2 = 1 then (atN ls (d / 2)).x else (atN ls (d / 2)).y) := rfl
  have HX := Lib.hid hX
  have HY := Lib.hid hY
  clear hX hY
  have H0 := Lib.hid (held_plus (held_pair w vn (.slice (some ⟨b, o, none⟩) ls.length c2) 78) (gs := P1 b o ls (d / 2)) ((Cs.keep (n := w.heap.size) (P1_bs hbl) (P1_cs hcs (by omega)) fun b' o' h => ((Below.refl w.heap.size w).alloc (Nat.le_refl _) _).cell (p := ⟨b', o', none⟩) h)) ((P1_bs hbl).mono (by simp)))
  unfold P1 at H0
  simp only [List.cons_append, List.nil_append] at H0
  unfold TwoIs
  generalize dF ls d = rx at *
  generalize dT ls d = ry at *
  have HQ := Lib.hid (show (d : Int) / 2 = ((d / 2 : Nat) : Int) from by omega)
  have HM := Lib.hid (show (d : Int) % 2 = ((d % 2 : Nat) : Int) from by omega)
  have hq : d / 2 < ls.length := by omega
  have hm : d % 2 < 2 := by omega
  generalize atN ls (d / 2) = n at *
  obtain ⟨x, y⟩ := n
  simp only at HX HY H0
  obtain ⟨x0, x1, x2, x3, _⟩ := H0.out.1
  clear HL hcs
  have y3 : w.cell? ⟨b, o + d / 2 * 2, none⟩ = some (.int .i64 x) := by rw [← x2]; exact (World.cell?_alloc_lt w _ _ (by simpa using hbl)).symm
  have y4 : w.cell? ⟨b, o + d / 2 * 2 + 1, none⟩ = some (.int .i64 y) := by rw [← x3]; exact (World.cell?_alloc_lt w _ _ (by simpa using hbl)).symm
  have hb1 : b < w.heap.size + 1 := by omega
  clear x0 x1 x2 x3
  have q1 : (0 : Int) ≤ ((d / 2 : Nat) : Int) := by omega
  have q2 : ((d / 2 : Nat) : Int) < (ls.length : Int) := by omega
  have HQ1 := Lib.hid q1
  go_enter Try.func97, Try.ntmps97
  go_wp2_with fail
  · rename_i hm1 _ _
    go_quiet (fail)
    go_wp2_with fail
    go_ret2
    have e : d % 2 = 1 := by have := eq_of_beq hm1; omega
    refine ⟨?_, below_drewN (below2 w _ _) _⟩
    rw [HX.out, HY.out, if_pos e, if_pos e]; rfl
  · rename_i hm1 _ _
    go_quiet (fail)
    go_wp2_with fail
    go_ret2
    have e : ¬ d % 2 = 1 := fun e => by
      rw [show (d : Int) % 2 = 1 by omega] at hm1
      cases hm1
    refine ⟨?_, below_drewN (below2 w _ _) _⟩
    rw [HX.out, HY.out, if_neg e, if_neg e]; rfl

set_option maxRecDepth 100000 in
theorem implHasDart (ns ls : List Nd) (vn vl : Value) (d : Int) (w : World) (hn : Prs w vn ns) (hl : Prs w vl ls) :
    Calls Try.prog 60 #[.agg #[vn, vl], .int .i64 d] w (BoolIs (hasDB ns ls d) w) := by
  have HN := Lib.hid hn
  have HL := Lib.hid hl
  have hlen := hn.len
  obtain ⟨A, c, rfl⟩ := prs_form2 hn
  obtain ⟨A2, c2, rfl⟩ := prs_form2 hl
  clear hn hl
  have H0 := Lib.hid (held_pair w (.slice A ns.length c) (.slice A2 ls.length c2) 31)
  have HW := Lib.hid (fun w h1 h2 => implWin ns ls (.slice A ns.length c) (.slice A2 ls.length c2) w h1 h2)
  have HD := Lib.hid (drawingOf_any A A2 ns.length c ls.length c2)
  unfold ValIs at HD
  have HH := Lib.hid (show winB ns ls = true → ∀ w, Calls Try.prog 92 #[.agg #[.slice A ns.length c, .slice A2 ls.length c2], .int .i64 d] w (BoolIs (idxB (2 * ls.length) d) w) from fun h w => dHas A A2 ns.length c ls.length c2 d w (by have := ((winB_iff ns ls).1 h).1.2; omega))
  have HR := Lib.hid (show hasDB ns ls d = (winB ns ls && idxB (2 * ls.length) d) from rfl)
  generalize hasDB ns ls d = r at *
  generalize winB ns ls = d0 at *
  generalize idxB (2 * ls.length) d = b at *
  cases d0
  · go_enter Try.func60, Try.ntmps60
    go_wp2_with fail
    refine (HW.out _ (HN.out.step H0.out.below) (HL.out.step H0.out.below)).mono ?_
    rintro e wH1 ⟨rfl, hb⟩
    have H1 := Lib.hid ((H0.out).step hb); clear hb
    try clear x0 x1
    obtain ⟨x0, x1, _⟩ := H1.out.1
    go_wp2_with fail
    go_ret
    exact ⟨ret_bool (by rw [HR.out]; simp), H1.out.below⟩
  · have HH := HH.out (by trivial)
    have HHH := Lib.hid HH; clear HH
    go_enter Try.func60, Try.ntmps60
    go_wp2_with fail
    refine (HW.out _ (HN.out.step H0.out.below) (HL.out.step H0.out.below)).mono ?_
    rintro e wH1 ⟨rfl, hb⟩
    have H1 := Lib.hid ((H0.out).step hb); clear hb
    try clear x0 x1
    obtain ⟨x0, x1, _⟩ := H1.out.1
    go_wp2_with fail
    refine (HD.out _).mono ?_
    rintro e wH2 ⟨rfl, hb⟩
    have H2 := Lib.hid ((H1.out).step hb); clear hb
    try clear x0 x1
    obtain ⟨x0, x1, _⟩ := H2.out.1
    go_wp2_with fail
    refine (HHH.out _).mono ?_
    rintro e wH3 ⟨rfl, hb⟩
    have H3 := Lib.hid ((H2.out).step hb); clear hb
    try clear x0 x1
    obtain ⟨x0, x1, _⟩ := H3.out.1
    go_wp2_with fail
    go_ret
    exact ⟨ret_bool (by rw [HR.out]; simp), H3.out.below⟩

set_option maxRecDepth 100000 in
set_option maxHeartbeats 400000 in
theorem sEnds (ls : List Nd) (vn vl : Value) (d : Nat) (w : World) (hl : Prs w vl ls) (hd : d < 2 * ls.length) (h20 : ls.length ≤ 20) :
    Calls Try.prog 96 #[.agg #[vn, vl], .int .i64 d] w (TwoIs (dF ls d) (dT ls d) w) := by
  have HL := Lib.hid hl
  obtain ⟨A2, c2, rfl⟩ := prs_form2 hl
  obtain ⟨b, o, c', he, hbl, hcs⟩ := prs_at2 hl (k := d / 2) (by omega)
  injection he with he1 he2 he3
  subst he1
  clear he2 he3 hl
  have hX : dF ls d = (if d % 2 = 1 then (atN ls (d / 2)).y else (atN ls (d / 2)).x) := rfl
  have hY : dT ls d = (if d % 2 = 1 then (atN ls (d / 2)).x else (atN ls (d / 2)).y) := rfl
  have HX := Lib.hid hX
  have HY := Lib.hid hY
  clear hX hY
  have H0 := Lib.hid (held_plus (held_pair w vn (.slice (some ⟨b, o, none⟩) ls.length c2) 31) (gs := P1 b o ls (d / 2)) ((Cs.keep (n := w.heap.size) (P1_bs hbl) (P1_cs hcs (by omega)) fun b' o' h => ((Below.refl w.heap.size w).alloc (Nat.le_refl _) _).cell (p := ⟨b', o', none⟩) h)) ((P1_bs hbl).mono (by simp)))
  unfold P1 at H0
  simp only [List.cons_append, List.nil_append] at H0
  unfold TwoIs
  generalize dF ls d = rx at *
  generalize dT ls d = ry at *
  have HQ := Lib.hid (show (d : Int) / 2 = ((d / 2 : Nat) : Int) from by omega)
  have HM := Lib.hid (show (d : Int) % 2 = ((d % 2 : Nat) : Int) from by omega)
  have hq : d / 2 < ls.length := by omega
  have hm : d % 2 < 2 := by omega
  generalize atN ls (d / 2) = n at *
  obtain ⟨x, y⟩ := n
  simp only at HX HY H0
  obtain ⟨x0, x1, x2, x3, _⟩ := H0.out.1
  clear HL hcs
  have y3 : w.cell? ⟨b, o + d / 2 * 2, none⟩ = some (.int .i64 x) := by rw [← x2]; exact (World.cell?_alloc_lt w _ _ (by simpa using hbl)).symm
  have y4 : w.cell? ⟨b, o + d / 2 * 2 + 1, none⟩ = some (.int .i64 y) := by rw [← x3]; exact (World.cell?_alloc_lt w _ _ (by simpa using hbl)).symm
  have hb1 : b < w.heap.size + 1 := by omega
  clear x0 x1 x2 x3
  have q1 : (0 : Int) ≤ ((d / 2 : Nat) : Int) := by omega
  have q2 : ((d / 2 : Nat) : Int) < (ls.length : Int) := by omega
  have HQ1 := Lib.hid q1
  go_enter Try.func96, Try.ntmps96
  go_wp2_with fail
  · rename_i hm1 _ _
    go_quiet (fail)
    go_wp2_with fail
    go_ret2
    have e : d % 2 = 1 := by have := eq_of_beq hm1; omega
    refine ⟨?_, below_drewN (below2 w _ _) _⟩
    rw [HX.out, HY.out, if_pos e, if_pos e]; rfl
  · rename_i hm1 _ _
    go_quiet (fail)
    go_wp2_with fail
    go_ret2
    have e : ¬ d % 2 = 1 := fun e => by
      rw [show (d : Int) % 2 = 1 by omega] at hm1
      cases hm1
    refine ⟨?_, below_drewN (below2 w _ _) _⟩
    rw [HX.out, HY.out, if_neg e, if_neg e]; rfl

theorem wrap_two {n : Nat} (h : n ≤ 1048576) : IntKind.i64.wrap (2 * (n : Int)) = 2 * (n : Int) := IntWalk.i64_in _ (by omega)
theorem wrap_two1 {n : Nat} (h : n ≤ 1048576) : IntKind.i64.wrap (2 * (n : Int) - 1) = ((2 * n : Nat) : Int) - 1 := by rw [IntWalk.i64_in _ (by omega)]; omega

set_option maxRecDepth 100000 in
theorem specIs (ns ls : List Nd) (vn vl : Value) (d : Int) (w : World) (hn : Prs w vn ns) (hl : Prs w vl ls) (h20 : ls.length ≤ 1048576) :
    Calls Try.prog 57 #[.agg #[vn, vl], .int .i64 d] w (BoolIs (hasDB ns ls d) w) := by
  have HN := Lib.hid hn
  have HL := Lib.hid hl
  obtain ⟨A, c, rfl⟩ := prs_form2 hn
  obtain ⟨A2, c2, rfl⟩ := prs_form2 hl
  clear hn hl
  have H0 := Lib.hid (held_pair w (.slice A ns.length c) (.slice A2 ls.length c2) 31)
  have HW := Lib.hid (fun w h1 h2 => specWin ns ls (.slice A ns.length c) (.slice A2 ls.length c2) w h1 h2)
  have HR := Lib.hid (show hasDB ns ls d = (winB ns ls && idxB (2 * ls.length) d) from rfl)
  have HIN := Lib.hid (fun w => idxB_in (2 * ls.length) d ▸ specIn d 0 (((2 * ls.length : Nat) : Int) - 1) w)
  have hcast : ((2 * ls.length : Nat) : Int) - 1 = 2 * (ls.length : Int) - 1 := by omega
  rw [hcast] at HIN
  clear hcast
  generalize hasDB ns ls d = r at *
  generalize winB ns ls = d0 at *
  generalize idxB (2 * ls.length) d = b at *
  cases b
  · go_enter Try.func57, Try.ntmps57
    go_wp2_with fail
    refine (HIN.out _).mono ?_
    rintro e w' ⟨rfl, rfl⟩
    go_wp2_with fail
    go_ret
    exact ⟨ret_bool (by rw [HR.out]; simp), H0.out.below⟩
  · go_enter Try.func57, Try.ntmps57
    go_wp2_with fail
    refine (HIN.out _).mono ?_
    rintro e w' ⟨rfl, rfl⟩
    go_wp2_with fail
    refine (HW.out _ (HN.out.step H0.out.below) (HL.out.step H0.out.below)).mono ?_
    rintro e wH1 ⟨rfl, hb⟩
    have H1 := Lib.hid ((H0.out).step hb); clear hb
    try clear x0 x1
    obtain ⟨x0, x1, _⟩ := H1.out.1
    go_wp2_with fail
    go_ret
    exact ⟨ret_bool (by rw [HR.out]; simp), H1.out.below⟩

theorem betI_nat {ns ls : List Nd} {a b : Int} (h : ¬ betI ns ls a b < 0) : ∃ k : Nat, betI ns ls a b = k ∧ k < ls.length ∧ ls.length ≤ 20 ∧ atN ls k = ⟨min a b, max a b⟩ ∧ min a b < max a b := by
  unfold betI at *
  by_cases hw : winB ns ls = true
  · rw [if_pos hw] at h ⊢
    have hf : ∀ (n k : Nat), n + k = ls.length → ¬ fstGo ls ⟨min a b, max a b⟩ k n < 0 → ∃ q : Nat, fstGo ls ⟨min a b, max a b⟩ k n = q ∧ q < ls.length ∧ atN ls q = ⟨min a b, max a b⟩ := by
      intro n
      induction n with
      | zero => intro k hk h; simp [fstGo] at h
      | succ n ih =>
        intro k hk h
        unfold fstGo at h ⊢
        by_cases e : atN ls k = ⟨min a b, max a b⟩
        · rw [if_pos e]; exact ⟨k, rfl, by omega, e⟩
        · rw [if_neg e] at h ⊢; exact ih (k + 1) (by omega) h
    obtain ⟨q, e, hq, hat⟩ := hf ls.length 0 rfl h
    have hok := (((winB_iff ns ls).1 hw).2.2 q hq).1
    obtain ⟨i, j, e2, hij, _⟩ := leadOkB_spec hok
    rw [hat] at e2
    injection e2 with e3 e4
    exact ⟨q, e, hq, ((winB_iff ns ls).1 hw).1.2, hat, by omega⟩
  · rw [if_neg hw] at h; omega

end Go.Proofs.Ytghpbdgghliieac
