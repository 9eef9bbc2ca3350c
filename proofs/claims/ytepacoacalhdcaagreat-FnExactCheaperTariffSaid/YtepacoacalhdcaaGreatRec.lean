/-
  Structs of four ints in view; what is asked of a recipe and of a tariff, of the model and of the program.
-/
import Derived.Test.YtepacoacalhdcaaGreatG5
namespace Go.Proofs.YtepacoacalhdcaaGreat
open Go.RowKit
set_option linter.unusedVariables false
set_option linter.unusedSimpArgs false

structure Qd where
  x : Int
  y : Int
  z : Int
  u : Int
deriving DecidableEq

def Qd.val (t : Qd) : Value := .agg #[.int .i64 t.x, .int .i64 t.y, .int .i64 t.z, .int .i64 t.u]

def QdIs (t : Qd) (w : World) (e : Ending) (w' : World) : Prop := e = .returned t.val ∧ Below w.heap.size w w'

theorem heldQ1 (w : World) (a : Qd) (T : TypeId) : Held w (w.alloc (.cells #[.int .i64 a.x, .int .i64 a.y, .int .i64 a.z, .int .i64 a.u] T)) [(w.heap.size, 0, .int .i64 a.x), (w.heap.size, 1, .int .i64 a.y), (w.heap.size, 2, .int .i64 a.z), (w.heap.size, 3, .int .i64 a.u)] :=
  (Held.none_ w).new2 w.heap.size rfl [.int .i64 a.x, .int .i64 a.y, .int .i64 a.z, .int .i64 a.u] T

theorem heldQ2 (w : World) (a b : Qd) (T U : TypeId) : Held w ((w.alloc (.cells #[.int .i64 a.x, .int .i64 a.y, .int .i64 a.z, .int .i64 a.u] T)).alloc (.cells #[.int .i64 b.x, .int .i64 b.y, .int .i64 b.z, .int .i64 b.u] U)) [(w.heap.size + 1, 0, .int .i64 b.x), (w.heap.size + 1, 1, .int .i64 b.y), (w.heap.size + 1, 2, .int .i64 b.z), (w.heap.size + 1, 3, .int .i64 b.u), (w.heap.size, 0, .int .i64 a.x), (w.heap.size, 1, .int .i64 a.y), (w.heap.size, 2, .int .i64 a.z), (w.heap.size, 3, .int .i64 a.u)] :=
  (heldQ1 w a T).new2 (w.heap.size + 1) (by simp) [.int .i64 b.x, .int .i64 b.y, .int .i64 b.z, .int .i64 b.u] U

theorem toTariff_any (t : Qd) (w : World) :
    Calls Tryz.prog 39 #[t.val] w (QdIs t w) := by
  obtain ⟨x, y, z, u⟩ := t
  unfold Qd.val
  go_enter Tryz.func39, Tryz.ntmps39
  go_wp2_with fail
  refine bodyPost_ret (v := .agg #[.int .i64 x, .int .i64 y, .int .i64 z, .int .i64 u]) (by simp [results, Tryz.results39, go_sem]) rfl ⟨rfl, below3 w _ _ _⟩

def qdB (t : Qd) : Bool := inB t.x 0 1000 && inB t.y 0 1000 && inB t.z 0 1000 && inB t.u 0 1000

theorem qdB_iff (t : Qd) : qdB t = true ↔ (0 ≤ t.x ∧ t.x ≤ 1000) ∧ (0 ≤ t.y ∧ t.y ≤ 1000) ∧ (0 ≤ t.z ∧ t.z ≤ 1000) ∧ (0 ≤ t.u ∧ t.u ≤ 1000) := by simp [qdB, inB, and_assoc]

def recB (t : Qd) : Bool := qdB t && decide (t.x + t.y + t.z + t.u = 1000)

set_option maxRecDepth 100000 in
theorem specTariff (f : Qd) (w : World) :
    Calls Tryz.prog 95 #[f.val] w (BoolIs (qdB f) w) := by
  have HA := Lib.hid (fun w => specInB f.x 0 1000 w)
  have HB := Lib.hid (fun w => specInB f.y 0 1000 w)
  have HC := Lib.hid (fun w => specInB f.z 0 1000 w)
  have HD := Lib.hid (fun w => specInB f.u 0 1000 w)
  have HR := Lib.hid (show qdB f = (inB f.x 0 1000 && inB f.y 0 1000 && inB f.z 0 1000 && inB f.u 0 1000) from rfl)
  have H0 := Lib.hid (heldQ1 w f 55)
  obtain ⟨x, y, z, u⟩ := f
  simp only at HA HB HC HD HR H0
  generalize qdB ⟨x, y, z, u⟩ = r at *
  generalize inB x 0 1000 = d1 at *
  generalize inB y 0 1000 = d2 at *
  generalize inB z 0 1000 = d3 at *
  generalize inB u 0 1000 = d4 at *
  unfold Qd.val at *
  cases d1 <;> cases d2 <;> cases d3 <;> cases d4
  all_goals
    go_enter Tryz.func95, Tryz.ntmps95
    go_wp2_with fail
    repeat' (first | ((first | (with_reducible refine (HA.out _).mono ?_) | (with_reducible refine (HB.out _).mono ?_) | (with_reducible refine (HC.out _).mono ?_) | (with_reducible refine (HD.out _).mono ?_) | fail); rintro e wn ⟨rfl, hb⟩; have H0 := Lib.hid (H0.out.step hb); clear hb; (try clear x0 x1 x2 x3); obtain ⟨x0, x1, x2, x3, _⟩ := H0.out.1; go_wp2_with fail) | fail)
    go_ret
    exact ⟨ret_bool (by rw [HR.out]; simp), H0.out.below⟩

set_option maxRecDepth 100000 in
theorem implTariff (f : Qd) (w : World) :
    Calls Tryz.prog 100 #[f.val] w (BoolIs (qdB f) w) := by
  have H0 := Lib.hid (heldQ1 w f 55)
  have HA := fun v w hv => implInR [f.x, f.y, f.z, f.u] v 0 1000 w hv
  have hr : inR [f.x, f.y, f.z, f.u] 0 1000 = qdB f := by simp [inR, qdB, Bool.and_assoc]
  rw [hr] at HA
  have HA := Lib.hid HA
  clear hr
  obtain ⟨x, y, z, u⟩ := f
  generalize qdB ⟨x, y, z, u⟩ = r at *
  unfold Qd.val
  simp only at H0 HA
  go_enter Tryz.func100, Tryz.ntmps100
  go_wp2_with fail
  refine (HA.out _ _ (Ints.lit (w.alloc (.cells #[.int .i64 x, .int .i64 y, .int .i64 z, .int .i64 u] 55)) (w.heap.size + 1) 0 (by simp) (by omega) [x, y, z, u] (by simp) _ rfl).seq).mono ?_
  rintro e w' ⟨rfl, hb⟩
  have H1 := Lib.hid ((H0.out.alloc _).step hb); clear hb
  go_wp2_with fail
  go_ret
  exact ⟨rfl, H1.out.below⟩

end Go.Proofs.YtepacoacalhdcaaGreat
