/-
  BearsLoad, of the program and of the model.
-/
import Derived.Test.YtfckgidilbjokaaGreatLoad
namespace Go.Proofs.YtfckgidilbjokaaGreat
open Go.RowKit
set_option linter.unusedVariables false
set_option linter.unusedSimpArgs false

noncomputable def bearB (ns ls : List Nd) (f p t : Int) : Bool := okL ns ls f p && (inB t 1 20 && decide (areaW ns ls f * p ≤ 500 * t * t))
theorem thick_bd {t : Int} (h : inB t 1 20 = true) : IntKind.i64.wrap (500 * t) = 500 * t ∧ IntKind.i64.wrap (500 * t * t) = 500 * t * t := by
  have ht : 1 ≤ t ∧ t ≤ 20 := by unfold inB at h; simp at h; omega
  have h1 : 0 ≤ 500 * t * t := Int.mul_nonneg (by omega) (by omega)
  have h2 : 500 * t * t ≤ 10000 * 20 := Int.mul_le_mul (by omega) (by omega) (by omega) (by omega)
  exact ⟨IntWalk.i64_in _ (by omega), IntWalk.i64_in _ (by omega)⟩
theorem implThick (p : Int) (w : World) : Calls Tryz.prog 74 #[.int .i64 p] w (BoolIs (inB p 1 20) w) := by
  by_cases h0 : 1 ≤ p
  · by_cases h1 : p ≤ 20
    · go_enter Tryz.func74, Tryz.ntmps74
      go_wp2_with fail
      go_ret
      exact ⟨ret_bool (by simp [inB, h0, h1]), Below.refl _ _⟩
    · go_enter Tryz.func74, Tryz.ntmps74
      go_wp2_with fail
      go_ret
      exact ⟨ret_bool (by simp [inB]; omega), Below.refl _ _⟩
  · go_enter Tryz.func74, Tryz.ntmps74
    go_wp2_with fail
    go_ret
    exact ⟨ret_bool (by simp [inB]; omega), Below.refl _ _⟩
theorem implGreatest (t : Int) (w : World) (h : inB t 1 20 = true) : Calls Tryz.prog 103 #[.int .i64 t] w (IntIs (500 * t * t) w) := by
  obtain ⟨h1, h2⟩ := thick_bd h
  clear h
  go_enter Tryz.func103, Tryz.ntmps103
  go_wp2_with fail
  go_ret
  exact ⟨rfl, Below.refl _ _⟩

theorem asWind (a p : Int) (w : World) : Sem.run Tryz.prog (Instr.typeAssert (.iface 124 (.agg #[.int .i64 a, .int .i64 p])) 87 124 true) w = .ok (.tuple #[.agg #[.int .i64 a, .int .i64 p], .bool true]) w := by kernel_rfl
theorem asNone (w : World) : Sem.run Tryz.prog (Instr.typeAssert (.iface 127 (.agg #[])) 87 124 true) w = .ok (.tuple #[.agg #[.int .i64 0, .int .i64 0], .bool false]) w := by kernel_rfl

set_option maxRecDepth 100000 in
theorem implBorneN (t : Int) (w : World) : Calls Tryz.prog 70 #[.iface 127 (.agg #[]), .int .i64 t] w (BoolIs false w) := by
  go_enter Tryz.func70, Tryz.ntmps70
  go_wp2_with fail
  simp only [asNone, Result.andThen_ok]
  go_wp2_with fail
  go_ret
  exact ⟨rfl, Below.refl _ _⟩

set_option maxRecDepth 100000 in
theorem implBorneW (a p t : Int) (w : World) (he : IntKind.i64.wrap (a * p) = a * p) : Calls Tryz.prog 70 #[.iface 124 (.agg #[.int .i64 a, .int .i64 p]), .int .i64 t] w (BoolIs (inB t 1 20 && decide (a * p ≤ 500 * t * t)) w) := by
  have HT := Lib.hid (implThick t)
  have HFO := Lib.hid (fun w => implForceW a p w he)
  unfold BoolIs at HT
  unfold IntIs at HFO
  clear he
  have H0 := Lib.hid ((Held.none_ w).new2 w.heap.size rfl [.int .i64 a, .int .i64 p] 124)
  by_cases ht : inB t 1 20 = true
  · have HG := Lib.hid (fun w => implGreatest t w ht)
    unfold IntIs at HG
    rw [ht] at HT ⊢
    clear ht
    generalize 500 * t * t = q at *
    generalize a * p = mp at *
    by_cases hq : mp ≤ q
    · have HR := Lib.hid (show (true && decide (mp ≤ q)) = true by simp [hq])
      generalize (true && decide (mp ≤ q)) = res at *
      go_enter Tryz.func70, Tryz.ntmps70
      go_wp2_with fail
      simp only [asWind, Result.andThen_ok]
      go_wp2_with fail
      refine (HT.out _).mono ?_
      rintro e w1 ⟨rfl, hb⟩
      have H1 := Lib.hid (H0.out.step hb); clear hb H0
      obtain ⟨x0, x1, _⟩ := H1.out.1
      go_wp2_with fail
      refine (HFO.out _).mono ?_
      rintro e w2 ⟨rfl, hb⟩
      have H2 := Lib.hid (H1.out.step hb); clear hb H1 x0 x1
      go_wp2_with fail
      refine (HG.out _).mono ?_
      rintro e w3 ⟨rfl, hb⟩
      have H3 := Lib.hid (H2.out.step hb); clear hb H2
      go_wp2_with fail
      go_ret
      exact ⟨ret_bool HR.out.symm, H3.out.below⟩
    · have HR := Lib.hid (show decide (mp ≤ q) = (true && decide (mp ≤ q)) by simp)
      generalize (true && decide (mp ≤ q)) = res at *
      go_enter Tryz.func70, Tryz.ntmps70
      go_wp2_with fail
      simp only [asWind, Result.andThen_ok]
      go_wp2_with fail
      refine (HT.out _).mono ?_
      rintro e w1 ⟨rfl, hb⟩
      have H1 := Lib.hid (H0.out.step hb); clear hb H0
      obtain ⟨x0, x1, _⟩ := H1.out.1
      go_wp2_with fail
      refine (HFO.out _).mono ?_
      rintro e w2 ⟨rfl, hb⟩
      have H2 := Lib.hid (H1.out.step hb); clear hb H1 x0 x1
      go_wp2_with fail
      refine (HG.out _).mono ?_
      rintro e w3 ⟨rfl, hb⟩
      have H3 := Lib.hid (H2.out.step hb); clear hb H2
      go_wp2_with fail
      go_ret
      exact ⟨ret_bool HR.out, H3.out.below⟩
  · rw [show inB t 1 20 = false by simpa using ht] at HT ⊢
    have HR := Lib.hid (show (false && decide (a * p ≤ 500 * t * t)) = false from rfl)
    generalize (false && decide (a * p ≤ 500 * t * t)) = res at *
    clear ht
    go_enter Tryz.func70, Tryz.ntmps70
    go_wp2_with fail
    simp only [asWind, Result.andThen_ok]
    go_wp2_with fail
    refine (HT.out _).mono ?_
    rintro e w1 ⟨rfl, hb⟩
    have H1 := Lib.hid (H0.out.step hb); clear hb H0
    go_wp2_with fail
    go_ret
    exact ⟨ret_bool HR.out.symm, H1.out.below⟩

end Go.Proofs.YtfckgidilbjokaaGreat
