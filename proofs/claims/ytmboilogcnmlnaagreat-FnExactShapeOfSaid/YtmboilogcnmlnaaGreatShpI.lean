/-
  Shapes: nodes moved, lists settled; of the program and of the model.
-/
import Derived.Test.YtmboilogcnmlnaaGreatShpP
import Derived.Test.YtmboilogcnmlnaaGreatDetN
import Derived.Test.YtmboilogcnmlnaaGreatImplNode
import Derived.Test.YtmboilogcnmlnaaGreatMarkO
import Derived.BigQuiet
namespace Go.Proofs.YtmboilogcnmlnaaGreat
open Go.RowKit
set_option linter.unusedVariables false
set_option linter.unusedSimpArgs false

/-- Nodes in new memory, and not nil. -/
def OwnSome (T : TypeId) (xs : List Nd) (w : World) (e : Ending) (w' : World) : Prop := ∃ g c, e = .returned (.slice (some ⟨g, 0, none⟩) xs.length c) ∧ Own w' w.heap.size T (.slice (some ⟨g, 0, none⟩) xs.length c) xs ∧ Below w.heap.size w w'

theorem own_below {B : Nat} {W W' : World} {T : TypeId} {v : Value} {xs : List Nd} {o : Obj} (h : Own W B T v xs) (hB : B ≤ W.heap.size) (hg : (W.alloc o).grownBy W' v.ownBlock) : Below B W W' :=
  ((Below.refl B W).alloc hB o).grown hg (by simp; omega) fun k e => (h.own k e).1

theorem own_some {w : World} {B : Nat} {T : TypeId} {v : Value} {xs : List Nd} (h : Own w B T v xs) (h0 : 0 < xs.length) : ∃ g c, v = .slice (some ⟨g, 0, none⟩) xs.length c := by
  obtain ⟨a, c, rfl, _, _, hc⟩ := h.form
  rcases hc with ⟨-, h1⟩ | ⟨g, rfl, _⟩
  · rw [h1] at h0; simp at h0
  · exact ⟨g, c, rfl⟩

theorem own_one {w' : World} {B : Nat} {T : TypeId} {v : Value} {xs : List Nd} {x y : Int} (h : w'.ownsRow B T 2 v (xs.length + 1) (cellsP xs ++ [.int .i64 x, .int .i64 y])) : Own w' B T v (xs ++ [⟨x, y⟩]) := Own.more (ys := [⟨x, y⟩]) h

theorem two_news {w : World} {b : Nat} {x y : Value} (h0 : w.cell? ⟨b, 0, none⟩ = some x) (h1 : w.cell? ⟨b, 1, none⟩ = some y) : ∀ j u, [x, y][j]? = some u → w.cell? ((⟨b, 0, none⟩ : Addr).add j) = some u := by
  intro j u h
  match j, h with
  | 0, h => simp at h; subst h; simpa [Addr.add] using h0
  | 1, h => simp at h; subst h; simpa [Addr.add] using h1
  | j + 2, h => simp at h

set_option maxRecDepth 100000 in
theorem implBef (a b : Nd) (w : World) :
    Calls Tryz.prog 121 #[a.val, b.val] w (BoolIs (befB a b) w) := by
  have HR := Lib.hid (befB_iff a b)
  have H0 := Lib.hid (((Held.none_ w).new2 w.heap.size rfl [.int .i64 a.x, .int .i64 a.y] 39).new2 (w.heap.size + 1) (by simp) [.int .i64 b.x, .int .i64 b.y] 39)
  simp only [newFs, List.cons_append, List.nil_append, List.append_nil] at H0
  generalize befB a b = r at *
  obtain ⟨ax, ay⟩ := a
  obtain ⟨bx, by'⟩ := b
  unfold Nd.val
  simp only at HR H0
  obtain ⟨x0, x1, x2, x3, _⟩ := H0.out.1
  go_enter Tryz.func121, Tryz.ntmps121
  by_cases h1 : ay < by'
  · have HRT := Lib.hid (HR.out.2 (.inl h1))
    go_wp2_with fail
    go_ret
    exact ⟨ret_bool HRT.out.symm, H0.out.below⟩
  by_cases h2 : ay = by'
  · have h2b : (ay == by') = true := by simpa using h2
    by_cases h3 : ax < bx
    · have HRT := Lib.hid (HR.out.2 (.inr ⟨h2, h3⟩))
      subst h2
      go_wp2_with fail
      go_ret
      exact ⟨ret_bool HRT.out.symm, H0.out.below⟩
    · have HRT := Lib.hid (show r = false from by
        by_cases hr : r = true
        · have := HR.out.1 hr; omega
        · simpa using hr)
      subst h2
      go_wp2_with fail
      all_goals
        go_ret
        exact ⟨ret_bool (by rw [HRT.out] <;> (first | rfl | (simp; omega))), H0.out.below⟩
  · have h2b : (ay == by') = false := by simpa using h2
    have HRT := Lib.hid (show r = false from by
      by_cases hr : r = true
      · have := HR.out.1 hr; omega
      · simpa using hr)
    go_wp2_with fail
    all_goals
      go_ret
      exact ⟨ret_bool (by rw [HRT.out] <;> (first | rfl | (simp; omega))), H0.out.below⟩

theorem implWayS (a b : Nd) (w : World) (h1 : -1000 ≤ a.x ∧ a.x ≤ 1000) (h2 : -1000 ≤ a.y ∧ a.y ≤ 1000) (h3 : -1000 ≤ b.x ∧ b.x ≤ 1000) (h4 : -1000 ≤ b.y ∧ b.y ≤ 1000) :
    Calls Tryz.prog 122 #[a.val, b.val] w (WayIs a b w) := by
  obtain ⟨ax, ay⟩ := a
  obtain ⟨bx, by'⟩ := b
  simp only at h1 h2 h3 h4
  unfold Nd.val
  have e1 : IntKind.i64.wrap (bx - ax) = bx - ax := IntWalk.i64_in _ (by omega)
  have e2 : IntKind.i64.wrap (by' - ay) = by' - ay := IntWalk.i64_in _ (by omega)
  go_enter Tryz.func122, Tryz.ntmps122
  go_wp2_with fail
  go_quiet (fail)
  go_wp2_with fail
  go_ret2
  exact ⟨rfl, below_drewN (below2 w _ _) _⟩

/-- The first k nodes, moved. -/
def movN (f : Nd → Nd) (xs : List Nd) (k : Nat) : List Nd := (xs.take k).map f

theorem movN_succ (f : Nd → Nd) {xs : List Nd} {k : Nat} (h : k < xs.length) : movN f xs (k + 1) = movN f xs k ++ [f (atN xs k)] := by
  unfold movN
  rw [take_atN h, List.map_append]
  rfl

theorem movN_len (f : Nd → Nd) {xs : List Nd} (k : Nat) (h : k ≤ xs.length) : (movN f xs k).length = k := by
  unfold movN
  rw [List.length_map, List.length_take]
  omega

theorem movN_all (f : Nd → Nd) (xs : List Nd) : movN f xs xs.length = xs.map f := by
  unfold movN
  rw [List.take_length]

end Go.Proofs.YtmboilogcnmlnaaGreat
