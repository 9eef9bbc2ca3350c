/-
  The cursor of the draws: what l01New, l01Byte, l01Below, l01Once return, and that only the cursor's own block turns.
-/
import Derived.Test.YtemblmcfbonjoaaBase
import Derived.Test.YtemblmcfbonjoaaPure
import Derived.Deep.QuietTactic
import Derived.BigQuiet
import Derived.LoopTactic
import Derived.Outline
namespace Go.Proofs.Ytemblmcfbonjoaa
set_option linter.unusedVariables false
set_option linter.unusedSimpArgs false
open Go.RowKit

/-- A draw returns an integer of which P holds; the cursor at b goes on, and nothing else has turned. -/
def Drawn (T B b : Nat) (P : Int → Prop) (w : World) (e : Ending) (w' : World) : Prop :=
  ∃ n : Int, P n ∧ e = .returned (.int .i64 n) ∧ Cur T B w' b ∧ Steps b w w'

theorem cur_of {T B b : Nat} {w w' : World} {a : Option Addr} {len cap i' : Nat} {h' : Int} {v1 v2 : Value} (hB : B ≤ b) (hst : Steps b w w') (hby : BytesAt B w a len)
    (hb : w'.heap[b]? = some (.cells #[.slice a len cap, v1, v2] T (0, 0))) (e1 : v1 = .int .i64 i') (e2 : v2 = .int .i64 h') (hi : i' ≤ len) : Cur T B w' b := by
  subst e1 e2
  exact ⟨hB, a, len, cap, i', h', hb, hi, hby.keep fun k hk => hst.block k (by omega)⟩

theorem drawn_of {T B b : Nat} {P : Int → Prop} {w w' : World} {a : Option Addr} {len cap i' : Nat} {h' n : Int} {v1 v2 : Value} {e : Ending} (hB : B ≤ b) (hby : BytesAt B w a len) (hn : P n) (he : e = .returned (.int .i64 n)) (hst : Steps b w w')
    (hb : w'.heap[b]? = some (.cells #[.slice a len cap, v1, v2] T (0, 0))) (e1 : v1 = .int .i64 i') (e2 : v2 = .int .i64 h') (hi : i' ≤ len) : Drawn T B b P w e w' :=
  ⟨n, hn, he, cur_of hB hst hby hb e1 e2 hi, hst⟩

theorem l01Byte_any {B b : Nat} {w : World} (h : Cur 99 B w b) :
    Calls Try.prog 95 #[.pointer (some ⟨b, 0, none⟩)] w (Drawn 99 B b (fun n => 0 ≤ n ∧ n ≤ 255) w) := by
  obtain ⟨hB, a, len, cap, i, h, hb, hi, hby⟩ := h
  have hmax := hby.1
  unfold maxLen at hmax
  have HY := Lib.hid hby
  have c0 : w.cell? ⟨b, 0, none⟩ = some (.slice a len cap) := by rw [cell_of_cells hb]; rfl
  have c1 : w.cell? ⟨b, 1, none⟩ = some (.int .i64 i) := by rw [cell_of_cells hb]; rfl
  have c2 : w.cell? ⟨b, 2, none⟩ = some (.int .i64 h) := by rw [cell_of_cells hb]; rfl
  have f1 : w.frozen? ⟨b, 1, none⟩ = false := free_of_cells hb
  have f2 : w.frozen? ⟨b, 2, none⟩ = false := free_of_cells hb
  have HB := Lib.hid hb; clear hb
  by_cases hlt : i < len
  · obtain ⟨blk, off, f, rfl, hblk, hf⟩ : ∃ (blk off : Nat) (f : Nat → Int), a = some ⟨blk, off, none⟩ ∧ blk < B ∧ ∀ j, j < len → w.cell? ⟨blk, off + j, none⟩ = some (.int .u8 (f j)) ∧ 0 ≤ f j ∧ f j ≤ 255 := by
      rcases hby.2 with h0 | h1
      · omega
      · exact h1
    obtain ⟨hc, hf0, hf1⟩ := hf i hlt
    clear hf hby
    have hne : blk ≠ b := by omega
    generalize f i = x at *
    clear f
    go_enter Try.func95, Try.ntmps95
    go_wp2
    go_quiet (fail)
    go_wp2
    go_quiet (fail)
    go_wp2
    go_quiet (fail)
    go_wp2
    go_ret
    refine drawn_of (i' := i + 1) hB HY.out (mask255 _) rfl ?_ ((heap_setCell_self (k := 1) (heap_setCell_self (k := 2) HB.out _) _)) rfl rfl (by omega)
    repeat (first | exact Steps.refl _ _ | apply Steps.drewN | apply Steps.setCell)
  · clear hby
    go_enter Try.func95, Try.ntmps95
    go_wp2
    go_quiet (fail)
    go_wp2
    go_quiet (fail)
    go_wp2
    go_ret
    refine drawn_of (i' := i) hB HY.out (mask255 _) rfl ?_ ((heap_setCell_self (k := 2) HB.out _)) rfl rfl (by omega)
    repeat (first | exact Steps.refl _ _ | apply Steps.drewN | apply Steps.setCell)

/-- A draw returns a bool; the cursor at b goes on, and nothing else has turned. -/
def DrawnB (T B b : Nat) (w : World) (e : Ending) (w' : World) : Prop :=
  ∃ v : Bool, e = .returned (.bool v) ∧ Cur T B w' b ∧ Steps b w w'

/-- 'below n': from 0 to n - 1; 0 where n is not above 0. -/
def InBelow (n r : Int) : Prop := 0 ≤ r ∧ (0 < n → r < n) ∧ (n ≤ 0 → r = 0)

theorem l01Below_any {B b : Nat} {w : World} (n : Int) (h : Cur 99 B w b) :
    Calls Try.prog 80 #[.pointer (some ⟨b, 0, none⟩), .int .i64 n] w (Drawn 99 B b (InBelow n) w) := by
  by_cases h0 : n ≤ 0
  · have HC := Lib.hid h; clear h
    go_enter Try.func80, Try.ntmps80
    go_wp2_with fail
    go_ret
    exact ⟨0, ⟨by omega, by omega, by omega⟩, rfl, HC.out, Steps.refl _ _⟩
  · by_cases h1 : n ≤ 256
    · have HC := Lib.hid h; clear h
      go_enter Try.func80, Try.ntmps80
      go_wp2_with fail
      refine (l01Byte_any HC.out).mono ?_
      rintro e w1 ⟨x, ⟨hx0, hx1⟩, rfl, hc1, hs1⟩
      have HC1 := Lib.hid hc1; clear hc1
      have HS1 := Lib.hid hs1; clear hs1
      go_wp2_with fail
      go_ret
      exact ⟨_, ⟨Int.emod_nonneg _ (by omega), fun _ => Int.emod_lt_of_pos _ (by omega), fun _ => by omega⟩, rfl, HC1.out, HS1.out⟩
    · have HC := Lib.hid h; clear h
      go_enter Try.func80, Try.ntmps80
      go_wp2_with fail
      refine (l01Byte_any HC.out).mono ?_
      rintro e w1 ⟨x1, ⟨hx0, hx1⟩, rfl, hc1, hs1⟩
      have HC1 := Lib.hid hc1; clear hc1
      have HS1 := Lib.hid hs1; clear hs1
      go_wp2_with fail
      refine (l01Byte_any HC1.out).mono ?_
      rintro e w2 ⟨x2, ⟨hy0, hy1⟩, rfl, hc1, hs1⟩
      have HC2 := Lib.hid hc1; clear hc1
      have HS2 := Lib.hid (HS1.out.trans hs1); clear hs1
      go_wp2_with fail
      refine (l01Byte_any HC2.out).mono ?_
      rintro e w3 ⟨x3, ⟨hz0, hz1⟩, rfl, hc1, hs1⟩
      have HC3 := Lib.hid hc1; clear hc1
      have HS3 := Lib.hid (HS2.out.trans hs1); clear hs1
      go_wp2_with fail
      refine (l01Byte_any HC3.out).mono ?_
      rintro e w4 ⟨x4, ⟨hu0, hu1⟩, rfl, hc1, hs1⟩
      have HC4 := Lib.hid hc1; clear hc1
      have HS4 := Lib.hid (HS3.out.trans hs1); clear hs1
      go_wp2_with fail
      go_ret
      exact ⟨_, ⟨Int.emod_nonneg _ (by omega), fun _ => Int.emod_lt_of_pos _ (by omega), fun _ => by omega⟩, rfl, HC4.out, HS4.out⟩

theorem l01Once_any {B b : Nat} {w : World} (n : Int) (h : Cur 99 B w b) :
    Calls Try.prog 82 #[.pointer (some ⟨b, 0, none⟩), .int .i64 n] w (DrawnB 99 B b w) := by
  have HC := Lib.hid h; clear h
  go_enter Try.func82, Try.ntmps82
  go_wp2_with fail
  refine (l01Below_any _ HC.out).mono ?_
  rintro e w1 ⟨x, _, rfl, hc1, hs1⟩
  have HC1 := Lib.hid hc1; clear hc1
  have HS1 := Lib.hid hs1; clear hs1
  go_wp2_with fail
  go_ret
  exact ⟨_, rfl, HC1.out, HS1.out⟩

set_option maxRecDepth 20000 in
theorem l01New_any {B : Nat} {w : World} {a : Option Addr} {len cap : Nat} (hB : B ≤ w.heap.size) (h : BytesAt B w a len) :
    Calls Try.prog 53 #[.slice a len cap] w fun e w' => e = .returned (.pointer (some ⟨w.heap.size, 0, none⟩)) ∧ Below w.heap.size w w' ∧ w'.heap.size = w.heap.size + 1 ∧ Cur 99 B w' w.heap.size := by
  have hmax := h.1
  unfold maxLen at hmax
  have HB := Lib.hid h; clear h
  go_enter Try.func53, Try.ntmps53
  go_wp2
  go_loop [3, 4] (fun h i => ∃ (k : Nat) (x : Int), k ≤ len ∧ i = .int .i64 k ∧ h = .int .i64 x) (fun _ i => len - (intOf i).toNat)
  case atStart => exact ⟨0, _, Nat.zero_le _, rfl, rfl⟩
  case round =>
    obtain ⟨k, x, hk, rfl, rfl⟩ := hrel
    by_cases hlt : k < len ∧ k < 4000
    · obtain ⟨blk, off, f, rfl, hblk, hf⟩ : ∃ (blk off : Nat) (f : Nat → Int), a = some ⟨blk, off, none⟩ ∧ blk < B ∧ ∀ j, j < len → w.cell? ⟨blk, off + j, none⟩ = some (.int .u8 (f j)) ∧ 0 ≤ f j ∧ f j ≤ 255 := by
        rcases HB.out.2 with h0 | h1
        · omega
        · exact h1
      obtain ⟨hc, hf0, hf1⟩ := hf k hlt.1
      obtain ⟨h1, h2⟩ := hlt
      clear hf
      generalize f k = y at *
      clear f
      go_wp2
      go_round
      case rel => exact ⟨k + 1, _, by omega, by go_num, rfl⟩
      case measure => simp [intOf]; omega
    · by_cases h1 : k < len
      all_goals
        go_wp2
        go_ret
        exact ⟨rfl, (Below.refl _ _).alloc (Nat.le_refl _) _, by simp, ⟨hB, a, len, cap, 0, x, heap_alloc_new _ _, Nat.zero_le _, HB.out.keep fun k hk => Below.heap_alloc _ _ _ (by omega)⟩⟩
end Go.Proofs.Ytemblmcfbonjoaa
