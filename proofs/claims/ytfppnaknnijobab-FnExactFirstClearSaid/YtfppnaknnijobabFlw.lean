/-
  Sheets with flaws: what covers a spot; which sheets are valid; of the program and of the model.
-/
import Derived.Test.YtfppnaknnijobabFlwP
import Derived.Test.YtfppnaknnijobabImplNode
import Derived.Test.YtfppnaknnijobabDet
import Derived.Test.YtfppnaknnijobabTrp
import Derived.BigQuiet
namespace Go.Proofs.Ytfppnaknnijobab
open Go.RowKit
set_option linter.unusedVariables false
set_option linter.unusedSimpArgs false

/-- The way from a to b is no overflow. -/
def Way64 (a b : Nd) : Prop := (-9223372036854775808 ≤ b.x - a.x ∧ b.x - a.x ≤ 9223372036854775807) ∧ (-9223372036854775808 ≤ b.y - a.y ∧ b.y - a.y ≤ 9223372036854775807)

theorem implWayF (a b : Nd) (w : World) (h : Way64 a b) :
    Calls Try.prog 115 #[a.val, b.val] w (WayIs a b w) := by
  obtain ⟨ax, ay⟩ := a
  obtain ⟨bx, by'⟩ := b
  unfold Way64 at h
  simp only at h
  obtain ⟨⟨a1, a2⟩, a3, a4⟩ := h
  unfold Nd.val
  have e1 : IntKind.i64.wrap (bx - ax) = bx - ax := IntWalk.i64_in _ ⟨a1, a2⟩
  have e2 : IntKind.i64.wrap (by' - ay) = by' - ay := IntWalk.i64_in _ ⟨a3, a4⟩
  go_enter Try.func115, Try.ntmps115
  go_wp2_with fail
  go_quiet (fail)
  go_wp2_with fail
  go_ret2
  exact ⟨rfl, below_drewN (below2 w _ _) _⟩

set_option maxRecDepth 100000 in
theorem implCov (a p n : Nd) (w : World) (h : Way64 a n) :
    Calls Try.prog 96 #[a.val, p.val, n.val] w (BoolIs (covB a p n) w) := by
  have HW := Lib.hid (fun w => implWayF a n w h)
  unfold WayIs at HW
  have HR := Lib.hid (covB_iff a p n)
  have HN := Lib.hid (covB_no a p n)
  have H0 := Lib.hid ((((Held.none_ w).new2 w.heap.size rfl [.int .i64 a.x, .int .i64 a.y] 82).new2 (w.heap.size + 1) (by simp) [.int .i64 p.x, .int .i64 p.y] 60).new2 (w.heap.size + 1 + 1) (by simp) [.int .i64 n.x, .int .i64 n.y] 82)
  simp only [newFs, List.cons_append, List.nil_append, List.append_nil] at H0
  clear h
  generalize hdx : n.x - a.x = dx at *
  generalize hdy : n.y - a.y = dy at *
  have HDX := Lib.hid hdx; clear hdx
  have HDY := Lib.hid hdy; clear hdy
  generalize covB a p n = r at *
  obtain ⟨ax, ay⟩ := a
  obtain ⟨nx, ny⟩ := n
  obtain ⟨px, py⟩ := p
  unfold Nd.val at *
  simp only at HW HR HN H0 HDX HDY
  obtain ⟨x0, x1, x2, x3, x4, x5, _⟩ := H0.out.1
  go_enter Try.func96, Try.ntmps96
  go_wp2_with fail
  refine (HW.out _).mono ?_
  rintro e w1 ⟨rfl, hb⟩
  have H1 := Lib.hid (H0.out.step hb); clear hb x0 x1 x2 x3 x4 x5
  obtain ⟨x0, x1, x2, x3, x4, x5, _⟩ := H1.out.1
  go_wp2_with fail
  all_goals
    go_ret
    exact ⟨ret_bool (by have h1 := HDX.out; have h2 := HDY.out; first | (rw [eq_comm, HR.out]; omega) | (rw [eq_comm, HN.out]; omega) | (rw [Bool.eq_iff_iff, HR.out]; simp; omega)), H1.out.below⟩

set_option maxRecDepth 100000 in
theorem specIns (a p n : Nd) (w : World) (h1 : -1000 ≤ a.x ∧ a.x ≤ 1000) (h2 : -1000 ≤ a.y ∧ a.y ≤ 1000) (h3 : -1000 ≤ n.x ∧ n.x ≤ 1000) (h4 : -1000 ≤ n.y ∧ n.y ≤ 1000) :
    Calls Try.prog 94 #[n.val, a.val, p.val] w (BoolIs (covB a p n) w) := by
  have HR := Lib.hid (covB_iff a p n)
  have HN := Lib.hid (covB_no a p n)
  have H0 := Lib.hid ((((Held.none_ w).new2 w.heap.size rfl [.int .i64 n.x, .int .i64 n.y] 82).new2 (w.heap.size + 1) (by simp) [.int .i64 a.x, .int .i64 a.y] 82).new2 (w.heap.size + 1 + 1) (by simp) [.int .i64 p.x, .int .i64 p.y] 60)
  simp only [newFs, List.cons_append, List.nil_append, List.append_nil] at H0
  generalize covB a p n = r at *
  obtain ⟨ax, ay⟩ := a
  obtain ⟨nx, ny⟩ := n
  obtain ⟨px, py⟩ := p
  unfold Nd.val at *
  simp only at HR HN H0 h1 h2 h3 h4
  have e1 : IntKind.i64.wrap (nx - ax) = nx - ax := IntWalk.i64_in _ (by omega)
  have e2 : IntKind.i64.wrap (ny - ay) = ny - ay := IntWalk.i64_in _ (by omega)
  obtain ⟨x0, x1, x2, x3, x4, x5, _⟩ := H0.out.1
  go_enter Try.func94, Try.ntmps94
  go_wp2_with fail
  all_goals
    go_ret
    exact ⟨ret_bool (by first | (rw [eq_comm, HR.out]; omega) | (rw [eq_comm, HN.out]; omega) | (rw [Bool.eq_iff_iff, HR.out]; simp; omega)), H0.out.below⟩
end Go.Proofs.Ytfppnaknnijobab
