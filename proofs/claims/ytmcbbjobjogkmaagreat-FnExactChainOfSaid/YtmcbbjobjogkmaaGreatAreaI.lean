/-
  WalkArea, of the model and of the program.
-/
import Derived.Test.YtmcbbjobjogkmaaGreatArea
namespace Go.Proofs.YtmcbbjobjogkmaaGreat
open Go.RowKit
set_option linter.unusedVariables false
set_option linter.unusedSimpArgs false

theorem implAlong0 (A A2 A3 : Option Addr) (n c n2 c2 c3 : Nat) (w : World) :
    Calls Tryz.prog 153 #[.agg #[.slice A n c, .slice A2 n2 c2], .slice A3 0 c3] w (IntIs 0 w) := by
  go_enter Tryz.func153, Tryz.ntmps153
  go_wp2_with fail
  refine wp_loop_rounds 1 ?_
  rw [rounds_succ]
  go_wp2_with fail
  go_ret
  exact ⟨rfl, (Below.refl _ _).alloc (Nat.le_refl _) _⟩

theorem specAlong0 (A A2 A3 : Option Addr) (n c n2 c2 c3 : Nat) (w : World) :
    Calls Tryz.prog 109 #[.agg #[.slice A n c, .slice A2 n2 c2], .slice A3 0 c3] w (IntIs 0 w) := by
  go_enter Tryz.func109, Tryz.ntmps109
  go_wp2_with fail
  refine wp_loop_rounds 1 ?_
  rw [rounds_succ]
  go_wp2_with fail
  go_ret
  exact ⟨rfl, (Below.refl _ _).alloc (Nat.le_refl _) _⟩

theorem walk_darts {ns ls : List Nd} {d : Int} (h : (walkI ns ls d).length ≠ 0) : winB ns ls = true ∧ DartsOf ls (walkI ns ls d) :=
  ⟨(walkI_at (show 0 < (walkI ns ls d).length by omega)).1, fun i hi => (walkI_at hi).2⟩

theorem implAlongI (ns ls : List Nd) (vn vl vx : Value) (d : Int) (w : World) (hn : Prs w vn ns) (hl : Prs w vl ls) (hx : Seq w vx (walkI ns ls d)) :
    Calls Tryz.prog 153 #[.agg #[vn, vl], vx] w (IntIs (areaI ns ls d) w) := by
  by_cases h : (walkI ns ls d).length = 0
  · obtain ⟨A, c, rfl⟩ := prs_form2 hn
    obtain ⟨A2, c2, rfl⟩ := prs_form2 hl
    obtain ⟨A3, c3, rfl⟩ := seq_form2 hx
    rw [show areaI ns ls d = 0 from areaL_zero ns ls _ h, h]
    exact implAlong0 _ _ _ _ _ _ _ _ w
  · obtain ⟨hw, hd⟩ := walk_darts h
    exact implAlong ns ls vn vl vx _ w hn hl hx hw hd (walkI_len ns ls d)

theorem specAlongI (ns ls : List Nd) (vn vl vx : Value) (d : Int) (w : World) (hn : Prs w vn ns) (hl : Prs w vl ls) (hx : Seq w vx (walkI ns ls d)) :
    Calls Tryz.prog 109 #[.agg #[vn, vl], vx] w (IntIs (areaI ns ls d) w) := by
  by_cases h : (walkI ns ls d).length = 0
  · obtain ⟨A, c, rfl⟩ := prs_form2 hn
    obtain ⟨A2, c2, rfl⟩ := prs_form2 hl
    obtain ⟨A3, c3, rfl⟩ := seq_form2 hx
    rw [show areaI ns ls d = 0 from areaL_zero ns ls _ h, h]
    exact specAlong0 _ _ _ _ _ _ _ _ w
  · obtain ⟨hw, hd⟩ := walk_darts h
    exact specAlong ns ls vn vl vx _ w hn hl hx hw hd (walkI_len ns ls d)

end Go.Proofs.YtmcbbjobjogkmaaGreat
