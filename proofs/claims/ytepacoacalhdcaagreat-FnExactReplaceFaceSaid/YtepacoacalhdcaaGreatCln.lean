/-
  slices.Clone at a list of ints.
-/
import Derived.Test.YtepacoacalhdcaaGreatG21
import Derived.Test.YtepacoacalhdcaaGreatG22
import Derived.WalkSpells
import Derived.Lib.SliceRun
namespace Go.Proofs.YtepacoacalhdcaaGreat
open Go.RowKit
set_option linter.unusedVariables false
set_option linter.unusedSimpArgs false

set_option maxRecDepth 100000 in
theorem cloneInts (xs : List Int) (v : Value) (w : World) (hv : Seq w v xs) (hlen : xs.length ≤ 1048576) :
    Calls Tryz.prog 89 #[v] w (IntsNew xs w) := by
  obtain ⟨i0, hi0, hz0, hz1, hz2⟩ := info_parts infoInt
  have HA := Lib.hid (fun w2 v2 (h : Seq w2 v2 xs) (g : Nat) (hg : w2.heap[g]? = some (.cells #[] 3 (0, 0))) (hB : w.heap.size ≤ g) => run_append_seq (P := Tryz.prog) (ty := 27) Tryz.underlying27 hi0 hz0 hz1 hz2 hg hB h hlen)
  clear hi0 hz0 hz1 hz2
  have HV := Lib.hid hv
  obtain ⟨A, c, rfl⟩ := seq_form2 hv
  clear hv
  have hnil := fun w => Lib.run_eql_slice_nil (P := Tryz.prog) w 27 3 A xs.length c 0 0 Tryz.underlying27
  cases A with
  | none =>
    have h0 : xs = [] := by
      by_cases hl : xs.length = 0
      · exact List.eq_nil_of_length_eq_zero hl
      · obtain ⟨b, o, hA, _⟩ := seq_at HV.out 0 (by omega)
        cases hA
    subst h0
    simp only [Option.isNone_none, List.length_nil] at hnil
    go_enter Tryz.func89, Tryz.ntmps89
    go_wp2_with fail
    go_ret
    exact ⟨_, rfl, Ints.nil _ _, Below.refl _ _⟩
  | some a =>
    simp only [Option.isNone_some] at hnil
    obtain ⟨v', w', hr, ho, hb⟩ := HA.out _ _ (HV.out.step (Below.refl _ _ |>.alloc (Nat.le_refl _) (.cells #[] 3))) w.heap.size (heap_alloc_new w _) (Nat.le_refl _)
    have HO := Lib.hid ho
    have HB := Lib.hid ((Below.refl _ _ |>.alloc (Nat.le_refl _) (.cells #[] 3)).trans (hb.mono (by simp)))
    clear ho hb
    go_enter Tryz.func89, Tryz.ntmps89
    go_wp2_with (at_builtin; refine wpList_append_run rfl _ _ 27 rfl v' w' hr ?_)
    go_wp2_with fail
    go_ret
    exact ⟨_, rfl, HO.out, HB.out⟩
end Go.Proofs.YtepacoacalhdcaaGreat
