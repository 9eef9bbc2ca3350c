/-
  The laws' helpers that mark: markNodeS, markLeadS, markWindow.
-/
import Derived.Test.YtfppnaknnijobaaLawW
namespace Go.Proofs.Ytfppnaknnijobaa
open Go.RowKit
set_option linter.unusedVariables false
set_option linter.unusedSimpArgs false

/-- n pairs of ints. -/
def PairsIn (C : Array Value) (n : Nat) : Prop := C.size = n * 2 ∧ ∀ j, j < n → ∃ p q : Int, C[j * 2]? = some (.int .i64 p) ∧ C[j * 2 + 1]? = some (.int .i64 q)
theorem PairsIn.set_ {C : Array Value} {n k : Nat} (h : PairsIn C n) (hk : k < n) (a b : Int) : PairsIn ((C.setIfInBounds (k * 2) (.int .i64 a)).setIfInBounds (k * 2 + 1) (.int .i64 b)) n := by
  obtain ⟨hs, ha⟩ := h
  refine ⟨by simpa using hs, fun j hj => ?_⟩
  by_cases hjk : j = k
  · subst hjk
    refine ⟨a, b, ?_, ?_⟩
    · rw [Array.getElem?_setIfInBounds_ne (by omega), Array.getElem?_setIfInBounds_self_of_lt (by omega)]
    · rw [Array.getElem?_setIfInBounds_self_of_lt (by simp; omega)]
  · obtain ⟨p, q, h1, h2⟩ := ha j hj
    refine ⟨p, q, ?_, ?_⟩
    · rw [Array.getElem?_setIfInBounds_ne (by omega), Array.getElem?_setIfInBounds_ne (by omega)]; exact h1
    · rw [Array.getElem?_setIfInBounds_ne (by omega), Array.getElem?_setIfInBounds_ne (by omega)]; exact h2
theorem grown_set {w wr : World} {g j : Nat} {x : Value} (a : w.grownBy wr (some g)) : w.grownBy (wr.setCell ⟨g, j, none⟩ x) (some g) := by
  refine ⟨a.os, a.tape, a.output, ?_, fun i hi hne => ?_⟩
  · rw [heap_setCell_size]; exact a.size
  · rw [Below.heap_setCell _ _ _ _ (fun e => hne (by rw [e])), a.block i hi hne]

/-- An int is returned; at most one block has turned: the slice's own. -/
def Marked (v : Value) (B m : Nat) (xs : List Nd) (w : World) (e : Ending) (w' : World) : Prop :=
  e = .returned (.int .i64 (m : Int)) ∧ ∃ row, w.grownBy w' row ∧ ∀ g, row = some g → B ≤ g ∧ g < w.heap.size ∧ 0 < xs.length ∧ ∃ c, v = .slice (some ⟨g, 0, none⟩) xs.length c

theorem markNodeS_any {B : Nat} {T : TypeId} {w : World} {v : Value} {xs : List Nd} (k0 : Nat) (h : Mine w B T v xs) (hlen : xs.length ≤ 1048576) (hk0 : k0 ≤ 4000000) :
    Calls Try.prog 43 #[v, .int .i64 k0] w (Marked v B (k0 + 2 * xs.length) xs w) := by
  obtain ⟨A, c, n, rfl, hl, hc, hx⟩ := h
  by_cases hz : xs.length = 0
  · clear hx
    obtain rfl : xs = [] := List.eq_nil_of_length_eq_zero hz
    go_enter Try.func43, Try.ntmps43
    go_wp2_with fail
    go_loopw [1, 5] (fun v i wr => i = .int .i64 0 ∧ v = .int .i64 k0 ∧ wr = w) (fun _ _ _ => 0)
    case atStart => exact ⟨rfl, rfl, rfl⟩
    case round =>
      obtain ⟨rfl, rfl, rfl⟩ := hrel
      go_wp2_with fail
      go_ret
      exact ⟨by simp, none, ⟨rfl, rfl, rfl, Nat.le_refl _, fun _ _ _ => rfl⟩, fun _ e => by cases e⟩
  · obtain ⟨g, rfl, hB, hn, C, hC, hs, ha, _⟩ := hx (by omega)
    have hgl : g < w.heap.size := lt_of_block hC
    have HP := Lib.hid (And.intro hC (show PairsIn C n from ⟨hs, ha⟩)); clear hC hs ha
    go_enter Try.func43, Try.ntmps43
    go_wp2_with fail
    go_loopw [1, 5] (fun v i wr => ∃ k : Nat, k ≤ xs.length ∧ i = .int .i64 k ∧ v = .int .i64 ((k0 : Int) + 2 * k) ∧ (∃ C, wr.heap[g]? = some (.cells C T (0, 0)) ∧ PairsIn C n) ∧ w.grownBy wr (some g)) (fun _ i _ => xs.length - (intOf i).toNat)
    case atStart => exact ⟨0, Nat.zero_le _, rfl, by go_num, ⟨C, HP.out⟩, ⟨rfl, rfl, rfl, Nat.le_refl _, fun _ _ _ => rfl⟩⟩
    case round =>
      clear HP
      obtain ⟨k, hk, rfl, rfl, ⟨C, hC, hp⟩, hgr⟩ := hrel
      have HGR := Lib.hid hgr; clear hgr
      by_cases hlt : k < xs.length
      · obtain ⟨p, q, h1, h2⟩ := hp.2 k (by omega)
        have g0 : wr.cell? ⟨g, k * 2, none⟩ = some (.int .i64 p) := by rw [cell_of_cells hC]; exact h1
        have g1 : wr.cell? ⟨g, k * 2 + 1, none⟩ = some (.int .i64 q) := by rw [cell_of_cells hC]; exact h2
        have f0 : wr.frozen? ⟨g, k * 2, none⟩ = false := free_of_cells hC
        have f1 : wr.frozen? ⟨g, k * 2 + 1, none⟩ = false := free_of_cells hC
        have HS := Lib.hid (fun a b => hp.set_ (k := k) (by omega) a b)
        have HCC := Lib.hid hC
        clear hC hp h1 h2
        go_wp2_with fail
        exact ⟨⟨k + 1, by omega, by go_num, by go_num, ⟨_, heap_setCell_self (heap_setCell_self HCC.out _) _, HS.out _ _⟩, grown_set (grown_set HGR.out)⟩, by simp [intOf]; omega⟩
      · have ek : k = xs.length := by omega
        have EK := Lib.hid ek; clear ek
        go_wp2_with fail
        go_ret
        exact ⟨ret_int (by rw [EK.out]; omega), some g, HGR.out, fun g' e => by injection e with e; subst e; exact ⟨hB, hgl, by omega, _, rfl⟩⟩

theorem markLeadS_any {B : Nat} {T : TypeId} {w : World} {v : Value} {xs : List Nd} (k0 : Nat) (h : Mine w B T v xs) (hlen : xs.length ≤ 1048576) (hk0 : k0 ≤ 4000000) :
    Calls Try.prog 63 #[v, .int .i64 k0] w (Marked v B (k0 + 2 * xs.length) xs w) := by
  obtain ⟨A, c, n, rfl, hl, hc, hx⟩ := h
  by_cases hz : xs.length = 0
  · clear hx
    obtain rfl : xs = [] := List.eq_nil_of_length_eq_zero hz
    go_enter Try.func63, Try.ntmps63
    go_wp2_with fail
    go_loopw [1, 5] (fun v i wr => i = .int .i64 0 ∧ v = .int .i64 k0 ∧ wr = w) (fun _ _ _ => 0)
    case atStart => exact ⟨rfl, rfl, rfl⟩
    case round =>
      obtain ⟨rfl, rfl, rfl⟩ := hrel
      go_wp2_with fail
      go_ret
      exact ⟨by simp, none, ⟨rfl, rfl, rfl, Nat.le_refl _, fun _ _ _ => rfl⟩, fun _ e => by cases e⟩
  · obtain ⟨g, rfl, hB, hn, C, hC, hs, ha, _⟩ := hx (by omega)
    have hgl : g < w.heap.size := lt_of_block hC
    have HP := Lib.hid (And.intro hC (show PairsIn C n from ⟨hs, ha⟩)); clear hC hs ha
    go_enter Try.func63, Try.ntmps63
    go_wp2_with fail
    go_loopw [1, 5] (fun v i wr => ∃ k : Nat, k ≤ xs.length ∧ i = .int .i64 k ∧ v = .int .i64 ((k0 : Int) + 2 * k) ∧ (∃ C, wr.heap[g]? = some (.cells C T (0, 0)) ∧ PairsIn C n) ∧ w.grownBy wr (some g)) (fun _ i _ => xs.length - (intOf i).toNat)
    case atStart => exact ⟨0, Nat.zero_le _, rfl, by go_num, ⟨C, HP.out⟩, ⟨rfl, rfl, rfl, Nat.le_refl _, fun _ _ _ => rfl⟩⟩
    case round =>
      clear HP
      obtain ⟨k, hk, rfl, rfl, ⟨C, hC, hp⟩, hgr⟩ := hrel
      have HGR := Lib.hid hgr; clear hgr
      by_cases hlt : k < xs.length
      · obtain ⟨p, q, h1, h2⟩ := hp.2 k (by omega)
        have g0 : wr.cell? ⟨g, k * 2, none⟩ = some (.int .i64 p) := by rw [cell_of_cells hC]; exact h1
        have g1 : wr.cell? ⟨g, k * 2 + 1, none⟩ = some (.int .i64 q) := by rw [cell_of_cells hC]; exact h2
        have f0 : wr.frozen? ⟨g, k * 2, none⟩ = false := free_of_cells hC
        have f1 : wr.frozen? ⟨g, k * 2 + 1, none⟩ = false := free_of_cells hC
        have HS := Lib.hid (fun a b => hp.set_ (k := k) (by omega) a b)
        have HCC := Lib.hid hC
        clear hC hp h1 h2
        go_wp2_with fail
        exact ⟨⟨k + 1, by omega, by go_num, by go_num, ⟨_, heap_setCell_self (heap_setCell_self HCC.out _) _, HS.out _ _⟩, grown_set (grown_set HGR.out)⟩, by simp [intOf]; omega⟩
      · have ek : k = xs.length := by omega
        have EK := Lib.hid ek; clear ek
        go_wp2_with fail
        go_ret
        exact ⟨ret_int (by rw [EK.out]; omega), some g, HGR.out, fun g' e => by injection e with e; subst e; exact ⟨hB, hgl, by omega, _, rfl⟩⟩
end Go.Proofs.Ytfppnaknnijobaa
