/-
  What the model's l01Figure returns: the digit of a number below 16.
-/
import Derived.Test.YtghpbdgghliieabDoorBase
import Derived.Test.YtghpbdgghliieabDoorHexP
import Derived.LoopTactic
import Derived.Outline
import Derived.Deep.RegionHeld3
import Derived.Deep.AppendLies
import Derived.Deep.QuietTactic
import Derived.BigQuiet
namespace Go.Proofs.YtghpbdgghliieabDoor
open Go.RowKit
set_option linter.unusedVariables false
set_option linter.unusedSimpArgs false

theorem infoU8 : (Tryd.prog.info? 5).map (fun i => (i.zero, i.size, i.bytes)) = some (some (.int .u8 0), 1, 1) := by kernel_rfl

theorem specFigure (n : Int) (w : World) (h0 : 0 ≤ n) (h : n < 16) :
    Calls Tryd.prog 26 #[.int .i64 n] w fun e w' => e = .returned (.int .u8 (digitB n.toNat).toNat) ∧ w = w' := by
  by_cases h1 : n < 10
  · have hd : ((digitB n.toNat).toNat : Int) = 48 + n := by
      unfold digitB; rw [if_pos (by omega)]; simp; omega
    have HD := Lib.hid hd; clear hd
    go_enter Tryd.func26, Tryd.ntmps26
    go_wp2_with fail
    go_ret
    exact ⟨ret_int (by rw [HD.out]; try omega), rfl⟩
  · have hd : ((digitB n.toNat).toNat : Int) = 87 + n := by
      unfold digitB; rw [if_neg (by omega)]; simp; omega
    have HD := Lib.hid hd; clear hd
    go_enter Tryd.func26, Tryd.ntmps26
    go_wp2_with fail
    go_ret
    exact ⟨ret_int (by rw [HD.out]; try omega), rfl⟩

end Go.Proofs.YtghpbdgghliieabDoor
