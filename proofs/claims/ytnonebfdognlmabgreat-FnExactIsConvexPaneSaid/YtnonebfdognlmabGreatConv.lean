/-
  IsConvexPane, of the program and of the model.
-/
import Derived.Test.YtnonebfdognlmabGreatCorn
namespace Go.Proofs.YtnonebfdognlmabGreat
open Go.RowKit
set_option linter.unusedVariables false
set_option linter.unusedSimpArgs false

/-- The least of the first n + 1. -/
def mnL (xs : List Int) : Nat → Int
  | 0 => atZ xs 0
  | n + 1 => min (mnL xs n) (atZ xs (n + 1))
theorem mnL_nn (xs : List Int) : ∀ n, 0 ≤ mnL xs n ↔ ∀ i, i ≤ n → 0 ≤ atZ xs i
  | 0 => ⟨fun h i hi => by obtain rfl : i = 0 := by omega
                           exact h, fun h => h 0 (Nat.le_refl _)⟩
  | n + 1 => by
    have ih := mnL_nn xs n
    unfold mnL
    constructor
    · intro h i hi
      by_cases e : i = n + 1
      · subst e; omega
      · exact ih.1 (by omega) i (by omega)
    · intro h
      have h1 := ih.2 fun i hi => h i (by omega)
      have h2 := h (n + 1) (Nat.le_refl _)
      omega
noncomputable def convB (ns ls : List Nd) (f : Int) : Bool := paneB ns ls f && decide (0 ≤ mnL (tuW ns ls f) ((tuW ns ls f).length - 1))

set_option maxRecDepth 100000 in
theorem implMin (xs : List Int) (B : Nat) (v : Value) (w : World) (hv : Ints w B v xs) (h0 : 0 < xs.length) (h40 : xs.length ≤ 40) : Calls Tryz.prog 65 #[v] w (IntIs (mnL xs (xs.length - 1)) w) := by
  obtain ⟨a, c, rfl⟩ := ints_form hv
  obtain ⟨A6, c6, e6, -, -, hcs⟩ := hv.seq.form
  simp only [Value.slice.injEq] at e6
  obtain ⟨rfl, -, -⟩ := e6
  have HC := Lib.hid hcs; clear hcs hv
  have HU := Lib.hid (fun n => show mnL xs (n + 1) = min (mnL xs n) (atZ xs (n + 1)) from rfl)
  have HZ := Lib.hid (show mnL xs 0 = atZ xs 0 from rfl)
  generalize mnL xs = X at *
  obtain ⟨bb, oo, rfl, hbl, c0⟩ := HC.out 0 h0
  have q0 : (0 : Int) < (xs.length : Int) := by omega
  have q1 : ¬ (xs.length : Int) < 1 := by omega
  rw [Nat.add_zero] at c0
  rw [← HZ.out] at c0
  obtain ⟨z0, hz0⟩ : ∃ z0, X 0 = z0 := ⟨_, rfl⟩
  rw [hz0] at c0
  have HZ0 := Lib.hid hz0
  clear hz0
  go_enter Tryz.func65, Tryz.ntmps65
  go_wp2_with fail
  go_loopw [3, 4] (fun b i wr => ∃ m : Nat, m + 1 ≤ xs.length ∧ i = .int .i64 ((m + 1 : Nat) : Int) ∧ b = .int .i64 (X m) ∧ wr = w) (fun _ i _ => xs.length - (intOf i).toNat)
  case atStart => exact ⟨0, h0, rfl, by rw [HZ0.out], rfl⟩
  case round =>
    obtain ⟨m, hm, rfl, rfl, rfl⟩ := hrel
    by_cases hlt : m + 1 < xs.length
    · obtain ⟨b2, o2, ee, -, c1⟩ := HC.out (m + 1) hlt
      simp only [Option.some.injEq, Addr.mk.injEq] at ee
      obtain ⟨rfl, rfl, -⟩ := ee
      have HUM := Lib.hid (HU.out m)
      obtain ⟨k, hk⟩ : ∃ k, k = m + 1 := ⟨_, rfl⟩
      rw [← hk] at c1 HUM ⊢
      have p1 : (0 : Int) ≤ k := by omega
      have p2 : (k : Int) < (xs.length : Int) := by omega
      have HK := Lib.hid hk
      have hk2 : k < xs.length := by omega
      clear hk hlt
      generalize atZ xs k = x at *
      generalize X m = y at *
      go_wp2_with fail
      exact ⟨⟨k, by omega, by go_num, by rw [HUM.out], trivial⟩, by simp [intOf]; omega⟩
    · obtain hx : m = xs.length - 1 := by omega
      have HX := Lib.hid hx
      have p2 : ((xs.length : Nat) : Int) ≤ ((m + 1 : Nat) : Int) := by omega
      clear hx
      go_wp2_with fail
      go_ret
      exact ⟨ret_int (by rw [← HX.out]), Below.refl _ _⟩

theorem pane_len {ns ls : List Nd} {f : Int} (h : paneB ns ls f = true) : 0 < (tuW ns ls f).length := by
  have hf := pane_idx h
  obtain ⟨k, rfl, hk⟩ := idx_nat hf
  unfold tuW paneW
  rw [tuL_len, if_pos hf, bord_len]
  exact (row_len hk).2

set_option maxRecDepth 100000 in
set_option maxHeartbeats 1000000 in
theorem specConv (ns ls : List Nd) (vn vl : Value) (f : Int) (w : World) (hn : Prs w vn ns) (hl : Prs w vl ls) :
    Calls Tryz.prog 28 #[.agg #[vn, vl], .int .i64 f] w (BoolIs (convB ns ls f) w) := by
  have HP := Lib.hid (fun w h1 h2 => specIsPane ns ls vn vl f w h1 h2)
  unfold BoolIs at HP
  have HT := Lib.hid (fun w h1 h2 => (show Calls Tryz.prog 64 #[.agg #[vn, vl], .int .i64 f] w (IntsNew (tuW ns ls f) w) from specTurns ns ls vn vl f w h1 h2))
  unfold IntsNew at HT
  have h40 := tuW_len ns ls f
  have HN := Lib.hid hn
  have HL := Lib.hid hl
  have H0 := Lib.hid (held_pair w vn vl 32)
  obtain ⟨A, c, rfl⟩ := prs_form2 hn
  obtain ⟨A2, c2, rfl⟩ := prs_form2 hl
  clear hn hl
  by_cases hp : paneB ns ls f = true
  · have h0 := pane_len hp
    have HR := Lib.hid (show convB ns ls f = decide (0 ≤ mnL (tuW ns ls f) ((tuW ns ls f).length - 1)) from by unfold convB; rw [hp]; rfl)
    have HNN := Lib.hid (mnL_nn (tuW ns ls f) ((tuW ns ls f).length - 1))
    rw [hp] at HP
    clear hp
    generalize convB ns ls f = res at *
    generalize tuW ns ls f = xs at *
    generalize mnL xs (xs.length - 1) = mn at *
    go_enter Tryz.func28, Tryz.ntmps28
    go_wp2_with fail
    refine (HP.out _ (HN.out.step H0.out.below) (HL.out.step H0.out.below)).mono ?_
    rintro e w1 ⟨rfl, hb⟩
    have H1 := Lib.hid (H0.out.step hb); clear hb H0
    obtain ⟨x0, x1, _⟩ := H1.out.1
    go_wp2_with fail
    refine (HT.out _ (HN.out.step H1.out.below) (HL.out.step H1.out.below)).mono ?_
    rintro e w2 ⟨v, rfl, hv, hb⟩
    have H2 := Lib.hid (H1.out.step hb); clear hb H1 x0 x1
    obtain ⟨a, cv, rfl⟩ := ints_form hv
    have HV := Lib.hid hv; clear hv
    go_wp2_with fail
    go_loopw [6] (fun i wr => ∃ m : Nat, m ≤ xs.length ∧ i = .int .i64 m ∧ (∀ j, j < m → 0 ≤ atZ xs j) ∧ wr = w2) (fun i _ => xs.length - (intOf i).toNat)
    case atStart => exact ⟨0, Nat.zero_le _, rfl, fun j hj => by omega, rfl⟩
    case round =>
      obtain ⟨m, hm, rfl, hz, rfl⟩ := hrel
      have HZ := Lib.hid hz; clear hz
      by_cases hlt : m < xs.length
      · obtain ⟨A6, c6, e6, -, -, hcs⟩ := HV.out.seq.form
        simp only [Value.slice.injEq] at e6
        obtain ⟨rfl, -, -⟩ := e6
        obtain ⟨bb, oo, rfl, hbl, c0⟩ := hcs m hlt
        have p1 : (0 : Int) ≤ m := by omega
        have p2 : (m : Int) < (xs.length : Int) := by omega
        clear hcs
        by_cases hz : atZ xs m < 0
        · have HX := Lib.hid (show res = false from by
            rw [HR.out]
            refine decide_eq_false fun h => ?_
            have := HNN.out.1 h m (by omega)
            omega)
          generalize atZ xs m = z at *
          go_wp2_with fail
          go_ret
          exact ⟨ret_bool HX.out.symm, H2.out.below⟩
        · have HZM := Lib.hid (show 0 ≤ atZ xs m by omega)
          obtain ⟨z, hzz⟩ : ∃ z, atZ xs m = z := ⟨_, rfl⟩
          rw [hzz] at c0 hz
          clear hzz
          go_wp2_with fail
          exact ⟨⟨m + 1, by omega, by go_num, fun j hj => by
            by_cases e : j = m
            · subst e; exact HZM.out
            · exact HZ.out j (by omega), trivial⟩, by simp [intOf]; omega⟩
      · obtain rfl : m = xs.length := by omega
        have HX := Lib.hid (show res = true from by rw [HR.out]; exact decide_eq_true (HNN.out.2 fun i hi => HZ.out i (by omega)))
        go_wp2_with fail
        go_ret
        exact ⟨ret_bool HX.out.symm, H2.out.below⟩
  · have HR := Lib.hid (show convB ns ls f = false from by unfold convB; rw [show paneB ns ls f = false by simpa using hp]; rfl)
    rw [show paneB ns ls f = false by simpa using hp] at HP
    clear hp
    generalize convB ns ls f = res at *
    go_enter Tryz.func28, Tryz.ntmps28
    go_wp2_with fail
    refine (HP.out _ (HN.out.step H0.out.below) (HL.out.step H0.out.below)).mono ?_
    rintro e w1 ⟨rfl, hb⟩
    have H1 := Lib.hid (H0.out.step hb); clear hb H0
    go_wp2_with fail
    go_ret
    exact ⟨ret_bool HR.out.symm, H1.out.below⟩

set_option maxRecDepth 100000 in
set_option maxHeartbeats 1000000 in
theorem implConv (ns ls : List Nd) (vn vl : Value) (f : Int) (w : World) (hn : Prs w vn ns) (hl : Prs w vl ls) :
    Calls Tryz.prog 29 #[.agg #[vn, vl], .int .i64 f] w (BoolIs (convB ns ls f) w) := by
  have HT := Lib.hid (fun v1 v2 v3 v4 B w h1 h2 h3 h4 => implTest (gN ns ls) (gL ns ls) v1 v2 v3 v4 (wF ns ls) (gA ns ls) B w h1 h2 h3 h4 (g_ok ns ls))
  have HS := Lib.hid (fun v1 v2 v3 v4 B B2 b1 b2 w0 w h1 h2 h3 h4 hh => implTest1 (gN ns ls) (gL ns ls) v1 v2 v3 v4 (wF ns ls) (gA ns ls) B B2 b1 b2 (outW ns ls) f w0 w h1 h2 h3 h4 (g_ok ns ls) (g_len ns ls).2 hh)
  rw [g_outer] at HT
  rw [g_test] at HS
  unfold TestNew at HT
  unfold BoolIs at HS
  have h40 := tuW_len ns ls f
  by_cases hp : paneB ns ls f = true
  · have h0 := pane_len hp
    have hf := pane_idx hp
    obtain ⟨k, rfl, hk⟩ := idx_nat hf
    have hh := (wF_row hk).1
    have HTU := Lib.hid (fun v1 v2 v3 v4 B B2 w h1 h2 h3 h4 => implTurns v1 v2 v3 v4 (wF ns ls) (gA ns ls) (gN ns ls) (gL ns ls) B B2 k w h1 h2 h3 h4 (g_ok ns ls) hk (g_len ns ls).2)
    rw [g_bord hk, show bord ls (atR (wF ns ls) k) = paneW ns ls k from (if_pos hf).symm, show tuL (gN ns ls) (paneW ns ls k) (paneW ns ls k).length = tuW ns ls k from by unfold tuW gN; rw [if_pos hh]] at HTU
    unfold IntsNew at HTU
    have HR := Lib.hid (show convB ns ls k = decide (0 ≤ mnL (tuW ns ls k) ((tuW ns ls k).length - 1)) from by unfold convB; rw [hp]; rfl)
    rw [hp] at HS
    clear hp hf hk hh
    have HN := Lib.hid hn
    have HL := Lib.hid hl
    have HGL := Lib.hid (fun w h1 h2 => implGlass ns ls vn vl w h1 h2)
    unfold GlassNew at HGL
    have H0 := Lib.hid (held_pair w vn vl 32)
    obtain ⟨A, c, rfl⟩ := prs_form2 hn
    obtain ⟨A2, c2, rfl⟩ := prs_form2 hl
    clear hn hl
    generalize convB ns ls (k : Int) = res at *
    generalize tuW ns ls (k : Int) = xs at *
    generalize outW ns ls = o at *
    have HMI := Lib.hid (fun B v w hv => implMin xs B v w hv h0 h40)
    unfold IntIs at HMI
    generalize mnL xs (xs.length - 1) = mn at *
    generalize gN ns ls = ns' at *
    generalize gL ns ls = ls' at *
    generalize gA ns ls = ds at *
    generalize wF ns ls = rs at *
    generalize wholeB ns ls = ok at *
    go_enter Tryz.func29, Tryz.ntmps29
    go_wp2_with fail
    refine (HGL.out _ (HN.out.step H0.out.below) (HL.out.step H0.out.below)).mono ?_
    rintro e w1 ⟨v1, v2, v3, v4, rfl, g1, g2, g3, g4, hb⟩
    have H1 := Lib.hid (H0.out.step hb)
    have G0 := Lib.hid (heldG w1 v1 v2 v3 v4 66)
    have B1 := Lib.hid (H1.out.below.trans (G0.out.below.mono H1.out.below.size))
    have G1 := Lib.hid (g1.step G0.out.below)
    have G2 := Lib.hid (g2.step G0.out.below)
    have G3 := Lib.hid (g3.step G0.out.below)
    have G4 := Lib.hid (g4.step G0.out.below)
    obtain ⟨A5, c5, rfl⟩ := prs_form2 g1
    obtain ⟨A6, c6, rfl⟩ := prs_form2 g2
    obtain ⟨A7, c7, rfl⟩ := faces_form g3
    obtain ⟨A8, c8, rfl⟩ := ints_form g4
    clear hb g1 g2 g3 g4
    obtain ⟨x0, x1, _⟩ := H1.out.1
    obtain ⟨y0, y1, y2, y3, _⟩ := G0.out.1
    go_wp2_with fail
    refine (HT.out _ _ _ _ _ _ G1.out G2.out G3.out G4.out).mono ?_
    rintro e w2 ⟨b1, b2, rfl, hh⟩
    have hb := hh.below
    have B2 := Lib.hid (B1.out.trans (hb.mono B1.out.size))
    have HC := Lib.hid (HS.out _ _ _ _ _ _ _ _ _ _ (G1.out.step hb) (G2.out.step hb) (G3.out.step hb) (G4.out.step hb) hh)
    have K1 := Lib.hid (G1.out.step hb)
    have K2 := Lib.hid (G2.out.step hb)
    have K3 := Lib.hid (G3.out.step hb)
    have K4 := Lib.hid (G4.out.step hb)
    have K0 := Lib.hid (G0.out.step hb)
    clear hb hh x0 x1 y0 y1 y2 y3
    go_wp2_with fail
    refine HC.out.mono ?_
    rintro e w3 ⟨rfl, hb⟩
    have B3 := Lib.hid (B2.out.trans (hb.mono B2.out.size))
    have L1 := Lib.hid (K1.out.step hb)
    have L2 := Lib.hid (K2.out.step hb)
    have L3 := Lib.hid (K3.out.step hb)
    have L4 := Lib.hid (K4.out.step hb)
    have L0 := Lib.hid (K0.out.step hb); clear hb
    obtain ⟨y0, y1, y2, y3, _⟩ := L0.out.1
    go_wp2_with fail
    refine (HTU.out _ _ _ _ _ _ _ L1.out L2.out L3.out L4.out).mono ?_
    rintro e w4 ⟨v, rfl, hv, hb⟩
    have B4 := Lib.hid (B3.out.trans (hb.mono B3.out.size)); clear hb y0 y1 y2 y3
    have HV := Lib.hid hv; clear hv
    go_wp2_with fail
    refine (HMI.out _ _ _ HV.out).mono ?_
    rintro e w5 ⟨rfl, hb⟩
    have B5 := Lib.hid (B4.out.trans (hb.mono B4.out.size)); clear hb
    by_cases hm : 0 ≤ mn
    · have HX := Lib.hid (show res = true from by rw [HR.out]; exact decide_eq_true hm)
      go_wp2_with fail
      go_ret
      exact ⟨ret_bool (by rw [HX.out]), B5.out⟩
    · have HX := Lib.hid (show decide (0 ≤ mn) = res from HR.out.symm)
      go_wp2_with fail
      go_ret
      exact ⟨ret_bool HX.out, B5.out⟩
  · have HR := Lib.hid (show convB ns ls f = false from by unfold convB; rw [show paneB ns ls f = false by simpa using hp]; rfl)
    rw [show paneB ns ls f = false by simpa using hp] at HS
    clear hp
    have HN := Lib.hid hn
    have HL := Lib.hid hl
    have HGL := Lib.hid (fun w h1 h2 => implGlass ns ls vn vl w h1 h2)
    unfold GlassNew at HGL
    have H0 := Lib.hid (held_pair w vn vl 32)
    obtain ⟨A, c, rfl⟩ := prs_form2 hn
    obtain ⟨A2, c2, rfl⟩ := prs_form2 hl
    clear hn hl
    generalize convB ns ls f = res at *
    generalize outW ns ls = o at *
    generalize gN ns ls = ns' at *
    generalize gL ns ls = ls' at *
    generalize gA ns ls = ds at *
    generalize wF ns ls = rs at *
    generalize wholeB ns ls = ok at *
    go_enter Tryz.func29, Tryz.ntmps29
    go_wp2_with fail
    refine (HGL.out _ (HN.out.step H0.out.below) (HL.out.step H0.out.below)).mono ?_
    rintro e w1 ⟨v1, v2, v3, v4, rfl, g1, g2, g3, g4, hb⟩
    have H1 := Lib.hid (H0.out.step hb)
    have G0 := Lib.hid (heldG w1 v1 v2 v3 v4 66)
    have B1 := Lib.hid (H1.out.below.trans (G0.out.below.mono H1.out.below.size))
    have G1 := Lib.hid (g1.step G0.out.below)
    have G2 := Lib.hid (g2.step G0.out.below)
    have G3 := Lib.hid (g3.step G0.out.below)
    have G4 := Lib.hid (g4.step G0.out.below)
    obtain ⟨A5, c5, rfl⟩ := prs_form2 g1
    obtain ⟨A6, c6, rfl⟩ := prs_form2 g2
    obtain ⟨A7, c7, rfl⟩ := faces_form g3
    obtain ⟨A8, c8, rfl⟩ := ints_form g4
    clear hb g1 g2 g3 g4
    obtain ⟨x0, x1, _⟩ := H1.out.1
    obtain ⟨y0, y1, y2, y3, _⟩ := G0.out.1
    go_wp2_with fail
    refine (HT.out _ _ _ _ _ _ G1.out G2.out G3.out G4.out).mono ?_
    rintro e w2 ⟨b1, b2, rfl, hh⟩
    have hb := hh.below
    have B2 := Lib.hid (B1.out.trans (hb.mono B1.out.size))
    have HC := Lib.hid (HS.out _ _ _ _ _ _ _ _ _ _ (G1.out.step hb) (G2.out.step hb) (G3.out.step hb) (G4.out.step hb) hh)
    clear hb hh x0 x1 y0 y1 y2 y3
    go_wp2_with fail
    refine HC.out.mono ?_
    rintro e w3 ⟨rfl, hb⟩
    have B3 := Lib.hid (B2.out.trans (hb.mono B2.out.size)); clear hb
    go_wp2_with fail
    go_ret
    exact ⟨ret_bool HR.out.symm, B3.out⟩
end Go.Proofs.YtnonebfdognlmabGreat
