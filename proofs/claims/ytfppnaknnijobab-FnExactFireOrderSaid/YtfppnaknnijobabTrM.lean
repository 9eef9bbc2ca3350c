/-
  Marks from any int on in slices of structs of three ints; such a slice while others turn.
-/
import Derived.Test.YtfppnaknnijobabTrL
import Derived.Test.YtfppnaknnijobabTurn
namespace Go.Proofs.Ytfppnaknnijobab
open Go.RowKit
set_option linter.unusedVariables false
set_option linter.unusedSimpArgs false

theorem Tps.turn {Lo Hi B : Nat} {T : TypeId} {w w' : World} {v : Value} {xs : List Tr} (h : Tps w B T v xs) (t : Turn Lo Hi w w') (hk : ∀ k, v.ownBlock = some k → k < Lo ∨ Hi ≤ k) : Tps w' B T v xs := by
  refine ⟨h.1, ?_⟩
  rcases h.2 with h0 | ⟨g, cap, cur, hv, hb, hg, r⟩
  · exact .inl h0
  · exact .inr ⟨g, cap, cur, hv, hb, (t.block g (lt_of_block hg) (hk g (by rw [hv]; rfl))).trans hg, r⟩
theorem markIntS_y {base : Nat} {w : World} {v : Value} {fs : List Int} (k0 : Nat) (h : Ints w base v fs) (h0 : 0 < k0) (h1 : k0 ≤ 8000000) (hl : fs.length ≤ 1048576) :
    Calls Try.prog 65 #[v, .int .i64 (k0 : Int)] w fun e w' => e = .returned (.int .i64 ((k0 + fs.length : Nat) : Int)) ∧ w.grownBy w' v.ownBlock := by
  have := markIntS_any k0 h h0 (by omega)
  exact this.mono fun e w' ⟨he, _, hg⟩ => ⟨he, hg⟩

set_option maxRecDepth 100000 in
set_option maxHeartbeats 4000000 in
theorem markFiringS_y {B : Nat} {T : TypeId} {w : World} {v : Value} {fs : List Tr} (k0 : Nat) (h : Tps w B T v fs) (hk1 : k0 ≤ 8000000) (hl : fs.length ≤ 1048577) :
    Calls Try.prog 64 #[v, .int .i64 (k0 : Int)] w fun e w' => e = .returned (.int .i64 ((k0 + 3 * fs.length : Nat) : Int)) ∧ w.grownBy w' v.ownBlock := by
  by_cases hz : fs.length = 0
  · obtain rfl : fs = [] := List.eq_nil_of_length_eq_zero hz
    have H := Lib.hid h
    obtain ⟨a, c, rfl, -, -, -⟩ := h.form
    clear h
    go_enter Try.func64, Try.ntmps64
    go_wp2_with fail
    go_loopw [1, 5] (fun v i wr => i = .int .i64 0 ∧ v = .int .i64 k0 ∧ wr = w) (fun _ _ _ => 0)
    case atStart => exact ⟨rfl, rfl, rfl⟩
    case round =>
      obtain ⟨rfl, rfl, rfl⟩ := hrel
      go_wp2_with fail
      go_ret
      exact ⟨by simp, ⟨rfl, rfl, rfl, Nat.le_refl _, fun _ _ _ => rfl⟩⟩
  · obtain ⟨g, cap, rfl⟩ := h.some_ (by omega)
    have H := Lib.hid h; clear h
    go_enter Try.func64, Try.ntmps64
    go_wp2_with fail
    go_loopw [1, 5] (fun v i wr => ∃ (k : Nat), k ≤ fs.length ∧ i = .int .i64 k ∧ v = .int .i64 ((k0 : Int) + 3 * k) ∧ Tps wr B T (.slice (some ⟨g, 0, none⟩) fs.length cap) (marksT k0 k ++ fs.drop k) ∧ w.grownBy wr (some g)) (fun _ i _ => fs.length - (intOf i).toNat)
    case atStart => exact ⟨0, Nat.zero_le _, rfl, by go_num, by simpa [marksT] using H.out, ⟨rfl, rfl, rfl, Nat.le_refl _, fun _ _ _ => rfl⟩⟩
    case round =>
      clear H
      obtain ⟨k, hk, rfl, rfl, hown, hgr⟩ := hrel
      have HO1 := Lib.hid hown; clear hown
      have HGR := Lib.hid hgr; clear hgr
      by_cases hlt : k < fs.length
      · obtain ⟨g0, g1, g2, f0, f1, f2⟩ := HO1.out.at_ (j := k) (by simp [marksT_len]; omega)
        have HST := Lib.hid (HO1.out.set (k := k) (by simp [marksT_len]; omega) (by simp [marksT_len]; omega) ⟨((k0 + 3 * k : Nat) : Int), ((k0 + 3 * k + 1 : Nat) : Int), ((k0 + 3 * k + 2 : Nat) : Int)⟩)
        rw [show ((k0 + 3 * k : Nat) : Int) = (k0 : Int) + 3 * (k : Int) by omega, show ((k0 + 3 * k + 1 : Nat) : Int) = (k0 : Int) + 3 * (k : Int) + 1 by omega, show ((k0 + 3 * k + 2 : Nat) : Int) = (k0 : Int) + 3 * (k : Int) + 1 + 1 by omega] at HST
        have HMS := Lib.hid (marksT_set k0 k fs hlt)
        rw [show ((k0 + 3 * k : Nat) : Int) = (k0 : Int) + 3 * (k : Int) by omega, show ((k0 + 3 * k + 1 : Nat) : Int) = (k0 : Int) + 3 * (k : Int) + 1 by omega, show ((k0 + 3 * k + 2 : Nat) : Int) = (k0 : Int) + 3 * (k : Int) + 1 + 1 by omega] at HMS
        go_wp2_with fail
        exact ⟨⟨k + 1, by omega, by go_num, by go_num, by rw [← HMS.out]; exact HST.out, grown_setT (grown_setT (grown_setT HGR.out))⟩, by simp [intOf]; omega⟩
      · have ek : k = fs.length := by omega
        have EK := Lib.hid ek; clear ek
        go_wp2_with fail
        go_ret
        exact ⟨ret_int (by rw [EK.out]; omega), HGR.out⟩
end Go.Proofs.Ytfppnaknnijobab
