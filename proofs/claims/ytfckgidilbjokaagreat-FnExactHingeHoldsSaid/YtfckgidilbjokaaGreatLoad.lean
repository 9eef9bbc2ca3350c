/-
  LoadOn, of the program and of the model.
-/
import Derived.Test.YtfckgidilbjokaaGreatWide
namespace Go.Proofs.YtfckgidilbjokaaGreat
open Go.RowKit
set_option linter.unusedVariables false
set_option linter.unusedSimpArgs false

theorem metWind (k : Nat) (v : Value) (w : World) : Sem.run Tryz.prog (method (k + 1) 124 v "loop.example/g03303/impl.force") w = .ok (102, v) w := by kernel_rfl
theorem entWind (args : Array Value) (w : World) : Sem.run Tryz.prog (callFunc 102 args) w = .ok (.enter 102 args) w := by kernel_rfl

theorem area_nn {ns ls : List Nd} {f : Int} (h : idxB (wF ns ls).length f = true) : 0 ≤ areaW ns ls f ∧ areaW ns ls f ≤ 16000 := by
  obtain ⟨k, rfl, hk⟩ := idx_nat h
  have hb := areaR_bd (wF_ok ns ls) hk
  unfold areaW absR
  rw [if_pos h, show ((k : Int)).toNat = k from rfl]
  omega
theorem mul_bd {a p : Int} (h1 : 0 ≤ a) (h2 : a ≤ 16000) (h3 : 0 ≤ p) (h4 : p ≤ 1000) : 0 ≤ a * p ∧ a * p ≤ 16000000 := by
  refine ⟨Int.mul_nonneg h1 h3, ?_⟩
  have := Int.mul_le_mul h2 h4 h3 (by omega)
  omega
noncomputable def okL (ns ls : List Nd) (f p : Int) : Bool := idxB (wF ns ls).length f && inB p 0 1000
noncomputable def loadW (ns ls : List Nd) (f p : Int) : Int := if okL ns ls f p = true then areaW ns ls f * p else -1
noncomputable def loadV (ns ls : List Nd) (f p : Int) : Value := if okL ns ls f p = true then .iface 124 (.agg #[.int .i64 (areaW ns ls f), .int .i64 p]) else .iface 127 (.agg #[])
theorem okL_parts {ns ls : List Nd} {f p : Int} (h : okL ns ls f p = true) : idxB (wF ns ls).length f = true ∧ inB p 0 1000 = true := by unfold okL at h; simpa using h

theorem implForceW (a p : Int) (w : World) (he : IntKind.i64.wrap (a * p) = a * p) : Calls Tryz.prog 102 #[.agg #[.int .i64 a, .int .i64 p]] w (IntIs (a * p) w) := by
  go_enter Tryz.func102, Tryz.ntmps102
  go_wp2_with fail
  go_ret
  exact ⟨rfl, below_alloc _ _⟩
theorem implPress (p : Int) (w : World) : Calls Tryz.prog 73 #[.int .i64 p] w (BoolIs (inB p 0 1000) w) := by
  by_cases h0 : 0 ≤ p
  · by_cases h1 : p ≤ 1000
    · go_enter Tryz.func73, Tryz.ntmps73
      go_wp2_with fail
      go_ret
      exact ⟨ret_bool (by simp [inB, h0, h1]), Below.refl _ _⟩
    · go_enter Tryz.func73, Tryz.ntmps73
      go_wp2_with fail
      go_ret
      exact ⟨ret_bool (by simp [inB]; omega), Below.refl _ _⟩
  · go_enter Tryz.func73, Tryz.ntmps73
    go_wp2_with fail
    go_ret
    exact ⟨ret_bool (by simp [inB]; omega), Below.refl _ _⟩

set_option maxRecDepth 100000 in
set_option maxHeartbeats 2000000 in
theorem implLoadG (ns ls : List Nd) (v1 v2 v3 v4 : Value) (B : Nat) (f p : Int) (w : World) (g1 : Prs w v1 (gN ns ls)) (g2 : Prs w v2 (gL ns ls)) (g3 : Faces w B v3 (wF ns ls)) (g4 : Ints w B v4 (gA ns ls)) :
    Calls Tryz.prog 71 #[.agg #[v1, v2, v3, v4], .int .i64 f, .int .i64 p] w (fun e w' => e = .returned (loadV ns ls f p) ∧ Below w.heap.size w w') := by
  have HH := Lib.hid (fun (A1 A2 A3 A4 : Option Addr) (n1 c1 n2 c2 c3 n4 c4 : Nat) w => implHasFace A1 A2 A3 A4 n1 c1 n2 c2 (wF ns ls).length c3 n4 c4 f w (by have := wF_len (ns := ns) (ls := ls); omega))
  have HPR := Lib.hid (implPress p)
  unfold BoolIs at HH HPR
  by_cases hf : idxB (wF ns ls).length f = true
  · obtain ⟨k, rfl, hk⟩ := idx_nat hf
    have HA := Lib.hid (fun W (hb : Below w.heap.size w W) => implArea (gN ns ls) (gL ns ls) v1 v2 v3 v4 (wF ns ls) (gA ns ls) B k W (g1.step hb) (g2.step hb) (g3.step hb) (g4.step hb) (g_ok ns ls) hk)
    rw [g_area hk] at HA
    unfold IntIs at HA
    rw [hf] at HH
    by_cases hp : inB p 0 1000 = true
    · have HR := Lib.hid (show loadV ns ls k p = .iface 124 (.agg #[.int .i64 (areaW ns ls k), .int .i64 p]) from by unfold loadV okL; rw [hf, hp]; rfl)
      rw [hp] at HPR
      obtain ⟨A5, c5, rfl⟩ := prs_form2 g1
      obtain ⟨A6, c6, rfl⟩ := prs_form2 g2
      obtain ⟨A7, c7, rfl⟩ := faces_form g3
      obtain ⟨A8, c8, rfl⟩ := ints_form g4
      have H0 := Lib.hid (heldG w (.slice A5 (gN ns ls).length c5) (.slice A6 (gL ns ls).length c6) (.slice A7 (wF ns ls).length c7) (.slice A8 (gA ns ls).length c8) 72)
      clear hf hp hk g1 g2 g3 g4
      generalize loadV ns ls (k : Int) p = res at *
      generalize areaW ns ls (k : Int) = ar at *
      generalize gN ns ls = ns' at *
      generalize gL ns ls = ls' at *
      generalize gA ns ls = ds at *
      generalize wF ns ls = rs at *
      obtain ⟨x0, x1, x2, x3, _⟩ := H0.out.1
      go_enter Tryz.func71, Tryz.ntmps71
      go_wp2_with fail
      refine (HH.out _ _ _ _ _ _ _ _ _ _ _ _).mono ?_
      rintro e w1 ⟨rfl, hb⟩
      have H1 := Lib.hid (H0.out.step hb); clear hb x0 x1 x2 x3 H0
      obtain ⟨x0, x1, x2, x3, _⟩ := H1.out.1
      go_wp2_with fail
      refine (HPR.out _).mono ?_
      rintro e w2 ⟨rfl, hb⟩
      have H2 := Lib.hid (H1.out.step hb); clear hb x0 x1 x2 x3 H1
      obtain ⟨x0, x1, x2, x3, _⟩ := H2.out.1
      go_wp2_with fail
      refine (HA.out _ H2.out.below).mono ?_
      rintro e w3 ⟨rfl, hb⟩
      have H3 := Lib.hid (H2.out.step hb); clear hb x0 x1 x2 x3 H2
      go_wp2_with fail
      go_ret
      exact ⟨by rw [HR.out]; rfl, H3.out.below⟩
    · have HR := Lib.hid (show loadV ns ls k p = .iface 127 (.agg #[]) from by unfold loadV okL; rw [hf, show inB p 0 1000 = false by simpa using hp]; rfl)
      rw [show inB p 0 1000 = false by simpa using hp] at HPR
      obtain ⟨A5, c5, rfl⟩ := prs_form2 g1
      obtain ⟨A6, c6, rfl⟩ := prs_form2 g2
      obtain ⟨A7, c7, rfl⟩ := faces_form g3
      obtain ⟨A8, c8, rfl⟩ := ints_form g4
      have H0 := Lib.hid (heldG w (.slice A5 (gN ns ls).length c5) (.slice A6 (gL ns ls).length c6) (.slice A7 (wF ns ls).length c7) (.slice A8 (gA ns ls).length c8) 72)
      clear hf hp hk g1 g2 g3 g4 HA
      generalize loadV ns ls (k : Int) p = res at *
      generalize gN ns ls = ns' at *
      generalize gL ns ls = ls' at *
      generalize gA ns ls = ds at *
      generalize wF ns ls = rs at *
      obtain ⟨x0, x1, x2, x3, _⟩ := H0.out.1
      go_enter Tryz.func71, Tryz.ntmps71
      go_wp2_with fail
      refine (HH.out _ _ _ _ _ _ _ _ _ _ _ _).mono ?_
      rintro e w1 ⟨rfl, hb⟩
      have H1 := Lib.hid (H0.out.step hb); clear hb x0 x1 x2 x3 H0
      go_wp2_with fail
      refine (HPR.out _).mono ?_
      rintro e w2 ⟨rfl, hb⟩
      have H2 := Lib.hid (H1.out.step hb); clear hb H1
      go_wp2_with fail
      go_ret
      exact ⟨by rw [HR.out]; rfl, H2.out.below⟩
  · have hff : idxB (wF ns ls).length f = false := by simpa using hf
    have HR := Lib.hid (show loadV ns ls f p = .iface 127 (.agg #[]) from by unfold loadV okL; rw [hff]; rfl)
    rw [hff] at HH
    obtain ⟨A5, c5, rfl⟩ := prs_form2 g1
    obtain ⟨A6, c6, rfl⟩ := prs_form2 g2
    obtain ⟨A7, c7, rfl⟩ := faces_form g3
    obtain ⟨A8, c8, rfl⟩ := ints_form g4
    have H0 := Lib.hid (heldG w (.slice A5 (gN ns ls).length c5) (.slice A6 (gL ns ls).length c6) (.slice A7 (wF ns ls).length c7) (.slice A8 (gA ns ls).length c8) 72)
    clear hf hff g1 g2 g3 g4 HPR
    generalize loadV ns ls f p = res at *
    generalize gN ns ls = ns' at *
    generalize gL ns ls = ls' at *
    generalize gA ns ls = ds at *
    generalize wF ns ls = rs at *
    obtain ⟨x0, x1, x2, x3, _⟩ := H0.out.1
    go_enter Tryz.func71, Tryz.ntmps71
    go_wp2_with fail
    refine (HH.out _ _ _ _ _ _ _ _ _ _ _ _).mono ?_
    rintro e w1 ⟨rfl, hb⟩
    have H1 := Lib.hid (H0.out.step hb); clear hb x0 x1 x2 x3 H0
    go_wp2_with fail
    go_ret
    exact ⟨by rw [HR.out]; rfl, H1.out.below⟩

set_option maxRecDepth 100000 in
set_option maxHeartbeats 1000000 in
theorem specLoadOn (ns ls : List Nd) (vn vl : Value) (f p : Int) (w : World) (hn : Prs w vn ns) (hl : Prs w vl ls) :
    Calls Tryz.prog 69 #[.agg #[vn, vl], .int .i64 f, .int .i64 p] w (IntIs (loadW ns ls f p) w) := by
  have HN := Lib.hid hn
  have HL := Lib.hid hl
  have HA := Lib.hid (fun w h1 h2 => specAreaOf ns ls vn vl f w h1 h2)
  unfold IntIs at HA
  have HIN := Lib.hid (fun w => specIn p 0 1000 w)
  have H0 := Lib.hid (held_pair w vn vl 32)
  obtain ⟨A, c, rfl⟩ := prs_form2 hn
  obtain ⟨A2, c2, rfl⟩ := prs_form2 hl
  clear hn hl
  by_cases hf : idxB (wF ns ls).length f = true
  · obtain ⟨a1, a2⟩ := area_nn hf
    by_cases h2 : inB p 0 1000 = true
    · have hp : 0 ≤ p ∧ p ≤ 1000 := by unfold inB at h2; simp at h2; omega
      obtain ⟨m1, m2⟩ := mul_bd a1 a2 hp.1 hp.2
      have he : IntKind.i64.wrap (areaW ns ls f * p) = areaW ns ls f * p := IntWalk.i64_in _ (by omega)
      have HR := Lib.hid (show loadW ns ls f p = areaW ns ls f * p from if_pos (by unfold okL; rw [hf, h2]; rfl))
      rw [h2] at HIN
      clear hf h2 m1 m2 hp
      generalize loadW ns ls f p = res at *
      generalize areaW ns ls f = ar at *
      go_enter Tryz.func69, Tryz.ntmps69
      go_wp2_with fail
      refine (HA.out _ (HN.out.step H0.out.below) (HL.out.step H0.out.below)).mono ?_
      rintro e w1 ⟨rfl, hb⟩
      have H1 := Lib.hid (H0.out.step hb); clear hb H0
      go_wp2_with fail
      refine (HIN.out _).mono ?_
      rintro e w2 ⟨rfl, rfl⟩
      go_wp2_with fail
      go_ret
      exact ⟨ret_int HR.out.symm, H1.out.below⟩
    · have HR := Lib.hid (show loadW ns ls f p = -1 from if_neg (by unfold okL; rw [show inB p 0 1000 = false by simpa using h2]; simp))
      rw [show inB p 0 1000 = false by simpa using h2] at HIN
      clear hf h2
      generalize loadW ns ls f p = res at *
      generalize areaW ns ls f = ar at *
      go_enter Tryz.func69, Tryz.ntmps69
      go_wp2_with fail
      refine (HA.out _ (HN.out.step H0.out.below) (HL.out.step H0.out.below)).mono ?_
      rintro e w1 ⟨rfl, hb⟩
      have H1 := Lib.hid (H0.out.step hb); clear hb H0
      go_wp2_with fail
      refine (HIN.out _).mono ?_
      rintro e w2 ⟨rfl, rfl⟩
      go_wp2_with fail
      go_ret
      exact ⟨ret_int HR.out.symm, H1.out.below⟩
  · have hff : idxB (wF ns ls).length f = false := by simpa using hf
    have HR := Lib.hid (show loadW ns ls f p = -1 from if_neg (by unfold okL; rw [hff]; simp))
    rw [g_noarea hff] at HA
    clear hf hff HIN
    generalize loadW ns ls f p = res at *
    go_enter Tryz.func69, Tryz.ntmps69
    go_wp2_with fail
    refine (HA.out _ (HN.out.step H0.out.below) (HL.out.step H0.out.below)).mono ?_
    rintro e w1 ⟨rfl, hb⟩
    have H1 := Lib.hid (H0.out.step hb); clear hb H0
    go_wp2_with fail
    go_ret
    exact ⟨ret_int HR.out.symm, H1.out.below⟩
end Go.Proofs.YtfckgidilbjokaaGreat
