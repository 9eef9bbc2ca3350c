/-
  The texts of a node and of a stain, of the model and of the program.
-/
import Derived.Test.YtghpbdgghliieabDoorLaid
import Derived.Test.YtghpbdgghliieabDoorTri
import Derived.Test.YtghpbdgghliieabDoorImplNode
import Derived.Test.YtghpbdgghliieabDoorDet
import Derived.Lib.ItoaLen
import Derived.Laws.Concat
namespace Go.Proofs.YtghpbdgghliieabDoor
open Go.RowKit
set_option linter.unusedVariables false
set_option linter.unusedSimpArgs false

def itS (n : Int) : ByteArray := ⟨(Lib.itoa n).toArray⟩
def StrIs (s : ByteArray) (w : World) (e : Ending) (w' : World) : Prop := e = .returned (.string s) ∧ Below w.heap.size w w'
theorem implFmtS (n : Int) (w : World) (hn : InI64 n) (ht : Tab w) : Calls Tryd.prog 18 #[.int .i64 n] w (StrIs (itS n) w) := implFormat n w hn ht
theorem specFmtS (n : Int) (w : World) (hn : InI64 n) : Calls Tryd.prog 16 #[.int .i64 n] w (StrIs (itS n) w) := specFormat n w hn

theorem itS_len (n : Int) (hn : InI64 n) : (itS n).size ≤ 21 := by
  have := hn; unfold InI64 at this; simp [Lit.wf, IntKind.min, IntKind.max, IntKind.signed, IntKind.bits] at this
  exact Lib.itoa_length_le n (by omega) (by omega)

def nodeT (n : Nd) : ByteArray := if okB n then itS n.x ++ ⟨#[44]⟩ ++ itS n.y else ⟨#[]⟩
set_option maxRecDepth 100000 in
theorem specNodeT (n : Nd) (w : World) (hx : InI64 n.x) (hy : InI64 n.y) :
    Calls Tryd.prog 6 #[n.val] w (StrIs (nodeT n) w) := by
  have HA := Lib.hid (specNodeOk n)
  have HB := Lib.hid (fun w => specFmtS n.x w hx)
  have HC := Lib.hid (fun w => specFmtS n.y w hy)
  have HR := Lib.hid (show nodeT n = if okB n then itS n.x ++ ⟨#[44]⟩ ++ itS n.y else ⟨#[]⟩ from rfl)
  have H0 := Lib.hid (held1 w n 25)
  generalize nodeT n = r at *
  generalize okB n = b at *
  obtain ⟨x, y⟩ := n
  unfold StrIs at HB HC
  unfold Nd.val at *
  simp only at H0 HA HB HC HR hx hy
  have lx := itS_len x hx
  have ly := itS_len y hy
  clear hx hy
  generalize itS x = sx at *
  generalize itS y = sy at *
  have l1 : (sx ++ ⟨#[44]⟩ : ByteArray).size ≤ 22 := by rw [ByteArray.size_append]; show sx.size + 1 ≤ 22; omega
  have c1 : ∀ w : World, (Op.stringOp .add sx ⟨#[44]⟩).run Tryd.prog w = .ok (.string (sx ++ ⟨#[44]⟩)) w := fun w => run_string_add_sum w _ _ (by show sx.size + 1 ≤ _; omega)
  have c2 : ∀ w : World, (Op.stringOp .add (sx ++ ⟨#[44]⟩) sy).run Tryd.prog w = .ok (.string (sx ++ ⟨#[44]⟩ ++ sy)) w := fun w => run_string_add_sum w _ _ (by omega)
  have k1 : ¬ (9223372036854775807 < sx.size + 1) := by omega
  have k2 : ¬ (9223372036854775807 < (sx ++ ⟨#[44]⟩ : ByteArray).size + sy.size) := by omega
  cases b
  · go_enter Tryd.func6, Tryd.ntmps6
    go_wp2_with fail
    refine (HA.out _).mono ?_
    rintro e wH1 ⟨rfl, hb⟩
    have H1 := Lib.hid ((H0.out).step hb); clear hb
    try clear x0 x1
    obtain ⟨x0, x1, _⟩ := H1.out.1
    go_wp2_with fail
    go_ret
    exact ⟨ret_str (by rw [HR.out]; rfl), H1.out.below⟩
  · go_enter Tryd.func6, Tryd.ntmps6
    go_wp2_with fail
    refine (HA.out _).mono ?_
    rintro e wH1 ⟨rfl, hb⟩
    have H1 := Lib.hid ((H0.out).step hb); clear hb
    try clear x0 x1
    obtain ⟨x0, x1, _⟩ := H1.out.1
    go_wp2_with fail
    refine regionD (S := fun W => Held _ W [(w.heap.size, 0, .int .i64 (x)), (w.heap.size, 1, .int .i64 (y))]) (by kernel_rfl) H1.out.drew ?_
    iterate 9 (refine takeT (v := ?_) rfl (by kernel_rfl) (by kernel_rfl) (by kernel_rfl) ?_ ?_; rotate_left; (first | (refine Or.inr ⟨by rfl, ?_⟩; with_reducible rfl) | (refine Or.inl ⟨by rfl, fun W hS => detRes_value (w' := W) ?_ hS⟩; obtain ⟨x0, x1, _⟩ := hS.1; go_simp; first | done | with_reducible rfl) | (refine Or.inl ⟨by rfl, fun W hS => ?_⟩; refine detRes_call (w' := W) (f := ?_) (args := ?_) ?_ ?_; rotate_left 2; (go_simp; (refine ⟨?_, ?_⟩ <;> with_reducible rfl)); (first | (with_reducible refine (HB.out _).mono ?_) | (with_reducible refine (HC.out _).mono ?_) | fail); (first | (rintro e wn ⟨rfl, hb⟩; refine ⟨?_, hS.step hb⟩; with_reducible rfl) | (rintro e wn ⟨rfl, rfl⟩; refine ⟨?_, hS⟩; with_reducible rfl) | fail)) | fail); (simp only [Act.put, List.setIfInBounds_toArray, List.set_cons_zero, List.set_cons_succ]))
    refine doneD (by kernel_rfl) fun wH2 HS => ?_
    have H2 := Lib.hid HS; clear HS
    try clear x0 x1
    obtain ⟨x0, x1, _⟩ := H2.out.1
    go_wp2_with fail
    go_ret
    exact ⟨ret_str (by rw [HR.out]; rfl), H2.out.below⟩

set_option maxRecDepth 100000 in
theorem implNodeT (n : Nd) (w : World) (hx : InI64 n.x) (hy : InI64 n.y) (ht : Tab w) :
    Calls Tryd.prog 8 #[n.val] w (StrIs (nodeT n) w) := by
  have HTB := Lib.hid ht
  have HTL := Lib.hid (tab_lt ht); clear ht
  have HA := Lib.hid (implOnBoard n)
  have HB := Lib.hid (fun w h => implFmtS n.x w hx h)
  have HC := Lib.hid (fun w h => implFmtS n.y w hy h)
  have HR := Lib.hid (show nodeT n = if okB n then itS n.x ++ ⟨#[44]⟩ ++ itS n.y else ⟨#[]⟩ from rfl)
  have H0 := Lib.hid (held1 w n 25)
  generalize nodeT n = r at *
  generalize okB n = b at *
  obtain ⟨x, y⟩ := n
  unfold StrIs at HB HC
  unfold Nd.val at *
  simp only at H0 HA HB HC HR hx hy
  have lx := itS_len x hx
  have ly := itS_len y hy
  clear hx hy
  generalize itS x = sx at *
  generalize itS y = sy at *
  have l1 : (sx ++ ⟨#[44]⟩ : ByteArray).size ≤ 22 := by rw [ByteArray.size_append]; show sx.size + 1 ≤ 22; omega
  have c1 : ∀ w : World, (Op.stringOp .add sx ⟨#[44]⟩).run Tryd.prog w = .ok (.string (sx ++ ⟨#[44]⟩)) w := fun w => run_string_add_sum w _ _ (by show sx.size + 1 ≤ _; omega)
  have c2 : ∀ w : World, (Op.stringOp .add (sx ++ ⟨#[44]⟩) sy).run Tryd.prog w = .ok (.string (sx ++ ⟨#[44]⟩ ++ sy)) w := fun w => run_string_add_sum w _ _ (by omega)
  have k1 : ¬ (9223372036854775807 < sx.size + 1) := by omega
  have k2 : ¬ (9223372036854775807 < (sx ++ ⟨#[44]⟩ : ByteArray).size + sy.size) := by omega
  cases b
  · go_enter Tryd.func8, Tryd.ntmps8
    go_wp2_with fail
    refine (HA.out _).mono ?_
    rintro e wH1 ⟨rfl, hb⟩
    have H1 := Lib.hid ((H0.out).step hb); clear hb
    try clear x0 x1
    obtain ⟨x0, x1, _⟩ := H1.out.1
    go_wp2_with fail
    go_ret
    exact ⟨ret_str (by rw [HR.out]; rfl), H1.out.below⟩
  · go_enter Tryd.func8, Tryd.ntmps8
    go_wp2_with fail
    refine (HA.out _).mono ?_
    rintro e wH1 ⟨rfl, hb⟩
    have H1 := Lib.hid ((H0.out).step hb); clear hb
    try clear x0 x1
    obtain ⟨x0, x1, _⟩ := H1.out.1
    go_wp2_with fail
    refine regionD (S := fun W => Held _ W [(w.heap.size, 0, .int .i64 (x)), (w.heap.size, 1, .int .i64 (y))]) (by kernel_rfl) H1.out.drew ?_
    iterate 9 (refine takeT (v := ?_) rfl (by kernel_rfl) (by kernel_rfl) (by kernel_rfl) ?_ ?_; rotate_left; (first | (refine Or.inr ⟨by rfl, ?_⟩; with_reducible rfl) | (refine Or.inl ⟨by rfl, fun W hS => detRes_value (w' := W) ?_ hS⟩; obtain ⟨x0, x1, _⟩ := hS.1; go_simp; first | done | with_reducible rfl) | (refine Or.inl ⟨by rfl, fun W hS => ?_⟩; refine detRes_call (w' := W) (f := ?_) (args := ?_) ?_ ?_; rotate_left 2; (go_simp; (refine ⟨?_, ?_⟩ <;> with_reducible rfl)); (first | (with_reducible refine (HB.out _ (tab_below HTB.out hS.below HTL.out)).mono ?_) | (with_reducible refine (HC.out _ (tab_below HTB.out hS.below HTL.out)).mono ?_) | fail); (first | (rintro e wn ⟨rfl, hb⟩; refine ⟨?_, hS.step hb⟩; with_reducible rfl) | (rintro e wn ⟨rfl, rfl⟩; refine ⟨?_, hS⟩; with_reducible rfl) | fail)) | fail); (simp only [Act.put, List.setIfInBounds_toArray, List.set_cons_zero, List.set_cons_succ]))
    refine doneD (by kernel_rfl) fun wH2 HS => ?_
    have H2 := Lib.hid HS; clear HS
    try clear x0 x1
    obtain ⟨x0, x1, _⟩ := H2.out.1
    go_wp2_with fail
    go_ret
    exact ⟨ret_str (by rw [HR.out]; rfl), H2.out.below⟩

def stainT (n : Tr) : ByteArray := if stainB n then itS n.x ++ ⟨#[47]⟩ ++ itS n.y ++ ⟨#[47]⟩ ++ itS n.z else ⟨#[]⟩
set_option maxRecDepth 100000 in
theorem specStainT (n : Tr) (w : World) (hx : InI64 n.x) (hy : InI64 n.y) (hz : InI64 n.z) :
    Calls Tryd.prog 9 #[n.val] w (StrIs (stainT n) w) := by
  have HA := Lib.hid (specStainOk n)
  have HB := Lib.hid (fun w => specFmtS n.x w hx)
  have HC := Lib.hid (fun w => specFmtS n.y w hy)
  have HD := Lib.hid (fun w => specFmtS n.z w hz)
  have HR := Lib.hid (show stainT n = if stainB n then itS n.x ++ ⟨#[47]⟩ ++ itS n.y ++ ⟨#[47]⟩ ++ itS n.z else ⟨#[]⟩ from rfl)
  have H0 := Lib.hid (heldT1 w n 31)
  generalize stainT n = r at *
  generalize stainB n = b at *
  obtain ⟨x, y, z⟩ := n
  unfold StrIs at HB HC HD
  unfold Tr.val at *
  simp only at H0 HA HB HC HD HR hx hy hz
  have lx := itS_len x hx
  have ly := itS_len y hy
  have lz := itS_len z hz
  clear hx hy hz
  generalize itS x = sx at *
  generalize itS y = sy at *
  generalize itS z = sz at *
  have l1 : (sx ++ ⟨#[47]⟩ : ByteArray).size ≤ 22 := by rw [ByteArray.size_append]; show sx.size + 1 ≤ 22; omega
  have l2 : (sx ++ ⟨#[47]⟩ ++ sy : ByteArray).size ≤ 43 := by rw [ByteArray.size_append]; omega
  have l3 : (sx ++ ⟨#[47]⟩ ++ sy ++ ⟨#[47]⟩ : ByteArray).size ≤ 44 := by rw [ByteArray.size_append]; show (sx ++ ⟨#[47]⟩ ++ sy : ByteArray).size + 1 ≤ 44; omega
  have c1 : ∀ w : World, (Op.stringOp .add sx ⟨#[47]⟩).run Tryd.prog w = .ok (.string (sx ++ ⟨#[47]⟩)) w := fun w => run_string_add_sum w _ _ (by show sx.size + 1 ≤ _; omega)
  have c2 : ∀ w : World, (Op.stringOp .add (sx ++ ⟨#[47]⟩) sy).run Tryd.prog w = .ok (.string (sx ++ ⟨#[47]⟩ ++ sy)) w := fun w => run_string_add_sum w _ _ (by omega)
  have c3 : ∀ w : World, (Op.stringOp .add (sx ++ ⟨#[47]⟩ ++ sy) ⟨#[47]⟩).run Tryd.prog w = .ok (.string (sx ++ ⟨#[47]⟩ ++ sy ++ ⟨#[47]⟩)) w := fun w => run_string_add_sum w _ _ (by show (sx ++ ⟨#[47]⟩ ++ sy : ByteArray).size + 1 ≤ _; omega)
  have c4 : ∀ w : World, (Op.stringOp .add (sx ++ ⟨#[47]⟩ ++ sy ++ ⟨#[47]⟩) sz).run Tryd.prog w = .ok (.string (sx ++ ⟨#[47]⟩ ++ sy ++ ⟨#[47]⟩ ++ sz)) w := fun w => run_string_add_sum w _ _ (by omega)
  have k1 : ¬ (9223372036854775807 < sx.size + 1) := by omega
  have k2 : ¬ (9223372036854775807 < (sx ++ ⟨#[47]⟩ : ByteArray).size + sy.size) := by omega
  have k3 : ¬ (9223372036854775807 < (sx ++ ⟨#[47]⟩ ++ sy : ByteArray).size + 1) := by omega
  have k4 : ¬ (9223372036854775807 < (sx ++ ⟨#[47]⟩ ++ sy ++ ⟨#[47]⟩ : ByteArray).size + sz.size) := by omega
  cases b
  · go_enter Tryd.func9, Tryd.ntmps9
    go_wp2_with fail
    refine (HA.out _).mono ?_
    rintro e wH1 ⟨rfl, hb⟩
    have H1 := Lib.hid ((H0.out).step hb); clear hb
    try clear x0 x1 x2
    obtain ⟨x0, x1, x2, _⟩ := H1.out.1
    go_wp2_with fail
    go_ret
    exact ⟨ret_str (by rw [HR.out]; rfl), H1.out.below⟩
  · go_enter Tryd.func9, Tryd.ntmps9
    go_wp2_with fail
    refine (HA.out _).mono ?_
    rintro e wH1 ⟨rfl, hb⟩
    have H1 := Lib.hid ((H0.out).step hb); clear hb
    try clear x0 x1 x2
    obtain ⟨x0, x1, x2, _⟩ := H1.out.1
    go_wp2_with fail
    refine regionD (S := fun W => Held _ W [(w.heap.size, 0, .int .i64 (x)), (w.heap.size, 1, .int .i64 (y)), (w.heap.size, 2, .int .i64 (z))]) (by kernel_rfl) H1.out.drew ?_
    iterate 14 (refine takeT (v := ?_) rfl (by kernel_rfl) (by kernel_rfl) (by kernel_rfl) ?_ ?_; rotate_left; (first | (refine Or.inr ⟨by rfl, ?_⟩; with_reducible rfl) | (refine Or.inl ⟨by rfl, fun W hS => detRes_value (w' := W) ?_ hS⟩; obtain ⟨x0, x1, x2, _⟩ := hS.1; go_simp; first | done | with_reducible rfl) | (refine Or.inl ⟨by rfl, fun W hS => ?_⟩; refine detRes_call (w' := W) (f := ?_) (args := ?_) ?_ ?_; rotate_left 2; (go_simp; (refine ⟨?_, ?_⟩ <;> with_reducible rfl)); (first | (with_reducible refine (HB.out _).mono ?_) | (with_reducible refine (HC.out _).mono ?_) | (with_reducible refine (HD.out _).mono ?_) | fail); (first | (rintro e wn ⟨rfl, hb⟩; refine ⟨?_, hS.step hb⟩; with_reducible rfl) | (rintro e wn ⟨rfl, rfl⟩; refine ⟨?_, hS⟩; with_reducible rfl) | fail)) | fail); (simp only [Act.put, List.setIfInBounds_toArray, List.set_cons_zero, List.set_cons_succ]))
    refine doneD (by kernel_rfl) fun wH2 HS => ?_
    have H2 := Lib.hid HS; clear HS
    try clear x0 x1 x2
    obtain ⟨x0, x1, x2, _⟩ := H2.out.1
    go_wp2_with fail
    go_ret
    exact ⟨ret_str (by rw [HR.out]; rfl), H2.out.below⟩

set_option maxRecDepth 100000 in
theorem implStainT (n : Tr) (w : World) (hx : InI64 n.x) (hy : InI64 n.y) (hz : InI64 n.z) (ht : Tab w) :
    Calls Tryd.prog 11 #[n.val] w (StrIs (stainT n) w) := by
  have HTB := Lib.hid ht
  have HTL := Lib.hid (tab_lt ht); clear ht
  have HA := Lib.hid (implStain n)
  have HB := Lib.hid (fun w h => implFmtS n.x w hx h)
  have HC := Lib.hid (fun w h => implFmtS n.y w hy h)
  have HD := Lib.hid (fun w h => implFmtS n.z w hz h)
  have HR := Lib.hid (show stainT n = if stainB n then itS n.x ++ ⟨#[47]⟩ ++ itS n.y ++ ⟨#[47]⟩ ++ itS n.z else ⟨#[]⟩ from rfl)
  have H0 := Lib.hid (heldT1 w n 31)
  generalize stainT n = r at *
  generalize stainB n = b at *
  obtain ⟨x, y, z⟩ := n
  unfold StrIs at HB HC HD
  unfold Tr.val at *
  simp only at H0 HA HB HC HD HR hx hy hz
  have lx := itS_len x hx
  have ly := itS_len y hy
  have lz := itS_len z hz
  clear hx hy hz
  generalize itS x = sx at *
  generalize itS y = sy at *
  generalize itS z = sz at *
  have l1 : (sx ++ ⟨#[47]⟩ : ByteArray).size ≤ 22 := by rw [ByteArray.size_append]; show sx.size + 1 ≤ 22; omega
  have l2 : (sx ++ ⟨#[47]⟩ ++ sy : ByteArray).size ≤ 43 := by rw [ByteArray.size_append]; omega
  have l3 : (sx ++ ⟨#[47]⟩ ++ sy ++ ⟨#[47]⟩ : ByteArray).size ≤ 44 := by rw [ByteArray.size_append]; show (sx ++ ⟨#[47]⟩ ++ sy : ByteArray).size + 1 ≤ 44; omega
  have c1 : ∀ w : World, (Op.stringOp .add sx ⟨#[47]⟩).run Tryd.prog w = .ok (.string (sx ++ ⟨#[47]⟩)) w := fun w => run_string_add_sum w _ _ (by show sx.size + 1 ≤ _; omega)
  have c2 : ∀ w : World, (Op.stringOp .add (sx ++ ⟨#[47]⟩) sy).run Tryd.prog w = .ok (.string (sx ++ ⟨#[47]⟩ ++ sy)) w := fun w => run_string_add_sum w _ _ (by omega)
  have c3 : ∀ w : World, (Op.stringOp .add (sx ++ ⟨#[47]⟩ ++ sy) ⟨#[47]⟩).run Tryd.prog w = .ok (.string (sx ++ ⟨#[47]⟩ ++ sy ++ ⟨#[47]⟩)) w := fun w => run_string_add_sum w _ _ (by show (sx ++ ⟨#[47]⟩ ++ sy : ByteArray).size + 1 ≤ _; omega)
  have c4 : ∀ w : World, (Op.stringOp .add (sx ++ ⟨#[47]⟩ ++ sy ++ ⟨#[47]⟩) sz).run Tryd.prog w = .ok (.string (sx ++ ⟨#[47]⟩ ++ sy ++ ⟨#[47]⟩ ++ sz)) w := fun w => run_string_add_sum w _ _ (by omega)
  have k1 : ¬ (9223372036854775807 < sx.size + 1) := by omega
  have k2 : ¬ (9223372036854775807 < (sx ++ ⟨#[47]⟩ : ByteArray).size + sy.size) := by omega
  have k3 : ¬ (9223372036854775807 < (sx ++ ⟨#[47]⟩ ++ sy : ByteArray).size + 1) := by omega
  have k4 : ¬ (9223372036854775807 < (sx ++ ⟨#[47]⟩ ++ sy ++ ⟨#[47]⟩ : ByteArray).size + sz.size) := by omega
  cases b
  · go_enter Tryd.func11, Tryd.ntmps11
    go_wp2_with fail
    refine (HA.out _).mono ?_
    rintro e wH1 ⟨rfl, hb⟩
    have H1 := Lib.hid ((H0.out).step hb); clear hb
    try clear x0 x1 x2
    obtain ⟨x0, x1, x2, _⟩ := H1.out.1
    go_wp2_with fail
    go_ret
    exact ⟨ret_str (by rw [HR.out]; rfl), H1.out.below⟩
  · go_enter Tryd.func11, Tryd.ntmps11
    go_wp2_with fail
    refine (HA.out _).mono ?_
    rintro e wH1 ⟨rfl, hb⟩
    have H1 := Lib.hid ((H0.out).step hb); clear hb
    try clear x0 x1 x2
    obtain ⟨x0, x1, x2, _⟩ := H1.out.1
    go_wp2_with fail
    refine regionD (S := fun W => Held _ W [(w.heap.size, 0, .int .i64 (x)), (w.heap.size, 1, .int .i64 (y)), (w.heap.size, 2, .int .i64 (z))]) (by kernel_rfl) H1.out.drew ?_
    iterate 14 (refine takeT (v := ?_) rfl (by kernel_rfl) (by kernel_rfl) (by kernel_rfl) ?_ ?_; rotate_left; (first | (refine Or.inr ⟨by rfl, ?_⟩; with_reducible rfl) | (refine Or.inl ⟨by rfl, fun W hS => detRes_value (w' := W) ?_ hS⟩; obtain ⟨x0, x1, x2, _⟩ := hS.1; go_simp; first | done | with_reducible rfl) | (refine Or.inl ⟨by rfl, fun W hS => ?_⟩; refine detRes_call (w' := W) (f := ?_) (args := ?_) ?_ ?_; rotate_left 2; (go_simp; (refine ⟨?_, ?_⟩ <;> with_reducible rfl)); (first | (with_reducible refine (HB.out _ (tab_below HTB.out hS.below HTL.out)).mono ?_) | (with_reducible refine (HC.out _ (tab_below HTB.out hS.below HTL.out)).mono ?_) | (with_reducible refine (HD.out _ (tab_below HTB.out hS.below HTL.out)).mono ?_) | fail); (first | (rintro e wn ⟨rfl, hb⟩; refine ⟨?_, hS.step hb⟩; with_reducible rfl) | (rintro e wn ⟨rfl, rfl⟩; refine ⟨?_, hS⟩; with_reducible rfl) | fail)) | fail); (simp only [Act.put, List.setIfInBounds_toArray, List.set_cons_zero, List.set_cons_succ]))
    refine doneD (by kernel_rfl) fun wH2 HS => ?_
    have H2 := Lib.hid HS; clear HS
    try clear x0 x1 x2
    obtain ⟨x0, x1, x2, _⟩ := H2.out.1
    go_wp2_with fail
    go_ret
    exact ⟨ret_str (by rw [HR.out]; rfl), H2.out.below⟩

end Go.Proofs.YtghpbdgghliieabDoor
