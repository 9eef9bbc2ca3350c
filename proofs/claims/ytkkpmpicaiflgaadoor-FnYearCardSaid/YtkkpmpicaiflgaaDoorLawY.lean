/-
  What the laws over code use: the number at a place, whether a slice of ints has one; the facts of the year for each month and each weather.
-/
import Derived.Test.YtkkpmpicaiflgaaDoorYearB
import Derived.Test.YtkkpmpicaiflgaaDoorBig
import Derived.LoopTactic
import Derived.Outline
namespace Go.Proofs.YtkkpmpicaiflgaaDoor
open Go.RowKit
set_option linter.unusedVariables false
set_option linter.unusedSimpArgs false

theorem mod_nat {a b : Int} (h0 : 0 ≤ a) (h1 : 0 < b) : Int.tmod a b = a % b := Int.tmod_eq_emod_of_nonneg h0

set_option maxRecDepth 100000 in
theorem atCode {B : Nat} {w : World} {a : Option Addr} {len cap : Nat} (i : Int) (hi0 : 0 ≤ i) (hi : i ≤ 100) (h : BytesAt B w a len) :
    Calls Tryd.prog 5 #[.slice a len cap, .int .i64 i] w fun e w' => (∃ x : Nat, x ≤ 255 ∧ e = .returned (.int .i64 x)) ∧ Below w.heap.size w w' := by
  have hmax := h.1
  unfold maxLen at hmax
  by_cases h0 : len = 0
  · subst h0
    clear h hmax hi hi0
    go_enter Tryd.func5, Tryd.ntmps5
    go_wp2_with fail
    go_ret
    exact ⟨⟨0, by omega, rfl⟩, Below.refl _ _⟩
  · obtain ⟨blk, off, f, rfl, hblk, hf⟩ : ∃ (blk off : Nat) (f : Nat → Int), a = some ⟨blk, off, none⟩ ∧ blk < B ∧ ∀ j, j < len → w.cell? ⟨blk, off + j, none⟩ = some (.int .u8 (f j)) ∧ 0 ≤ f j ∧ f j ≤ 255 := by
      rcases h.2 with h1 | h1
      · omega
      · exact h1
    have e1 : IntKind.i64.wrap (i * 5) = i * 5 := IntWalk.i64_in _ (by omega)
    have e2 : IntKind.i64.wrap (i * 5 + 1) = i * 5 + 1 := IntWalk.i64_in _ (by omega)
    obtain ⟨j, hj⟩ : ∃ j : Nat, (i * 5 + 1) % (len : Int) = j := ⟨((i * 5 + 1) % (len : Int)).toNat, by have := Int.emod_nonneg (i * 5 + 1) (show (len : Int) ≠ 0 by omega); omega⟩
    have hjl : j < len := by have := Int.emod_lt_of_pos (i * 5 + 1) (show (0 : Int) < (len : Int) by omega); omega
    obtain ⟨hc, hf0, hf1⟩ := hf j hjl
    clear hf h
    obtain ⟨x, hx⟩ : ∃ x : Nat, f j = x := ⟨(f j).toNat, by omega⟩
    rw [hx] at hc hf0 hf1
    have e3 : IntKind.i64.wrap (x : Int) = (x : Int) := IntWalk.i64_in _ (by omega)
    have hz1 : (0 : Int) < (len : Int) := by omega
    have hz2 : (0 : Int) ≤ i * 5 + 1 := by omega
    have hz3 : (j : Int) < (len : Int) := by omega
    have hz4 : (0 : Int) ≤ (j : Int) := by omega
    have ht : Int.tmod (i * 5 + 1) (len : Int) = j := by rw [mod_nat hz2 hz1]; exact hj
    clear hx
    go_enter Tryd.func5, Tryd.ntmps5
    go_wp2_with fail
    go_ret
    exact ⟨⟨x, by omega, rfl⟩, Below.refl _ _⟩

theorem lawHas (xs : List Int) (v : Value) (x : Int) (w : World) (hv : Seq w v xs) : Calls Tryd.prog 12 #[v, .int .i64 x] w (BoolIs (xs.contains x) w) := by
  have hlen := hv.len
  obtain ⟨A, c, rfl, _, _, hcs⟩ := hv.form
  clear hv
  have HR := Lib.hid (show xs.contains x = true ↔ x ∈ xs from List.contains_iff_mem)
  generalize xs.contains x = r at *
  go_enter Tryd.func12, Tryd.ntmps12
  go_wp2_with fail
  go_loopw [5] (fun i wr => ∃ m : Nat, m ≤ xs.length ∧ i = .int .i64 m ∧ x ∉ xs.take m ∧ wr = w) (fun i _ => xs.length - (intOf i).toNat)
  case atStart => exact ⟨0, Nat.zero_le _, rfl, by simp, rfl⟩
  case round =>
    obtain ⟨m, hm, rfl, ha, rfl⟩ := hrel
    have HA := Lib.hid ha; clear ha
    by_cases hlt : m < xs.length
    · obtain ⟨bb, o, rfl, hbl, hc⟩ := hcs m hlt
      have HT := Lib.hid (show xs.take (m + 1) = xs.take m ++ [atZ xs m] from by rw [List.take_succ_eq_append_getElem hlt, atZ_get hlt])
      have HM := Lib.hid (show atZ xs m ∈ xs from by rw [← atZ_get hlt]; exact List.getElem_mem hlt)
      have hz1 : (m : Int) < (xs.length : Int) := by omega
      have hz2 : (0 : Int) ≤ m := by omega
      generalize atZ xs m = z at *
      by_cases hb : z = x
      · have HB := Lib.hid hb
        have g : (z == x) = true := by simpa using hb
        clear hb
        go_wp2_with fail
        go_ret
        exact ⟨ret_bool (by have h1 := HM.out; rw [HB.out] at h1; exact (HR.out.2 h1).symm), Below.refl _ _⟩
      · have HB := Lib.hid hb
        have g : (z == x) = false := by rw [beq_eq_false_iff_ne]; exact hb
        clear hb
        go_wp2_with fail
        exact ⟨⟨m + 1, by omega, by go_num, by rw [HT.out]; simp only [List.mem_append, List.mem_singleton]; exact fun h => h.elim HA.out fun h => HB.out h.symm, trivial⟩, by simp [intOf]; omega⟩
    · obtain rfl : m = xs.length := by omega
      go_wp2_with fail
      go_ret
      exact ⟨ret_bool (by have h1 := HA.out; rw [List.take_length] at h1; by_cases hr : r = true; (· exact absurd (HR.out.1 hr) h1); (· simpa using hr)), Below.refl _ _⟩

/-- What the law asks of one month and one weather. -/
def yChk (t m : Nat) : Bool :=
  let n := clearI m t
  let b := bestI t
  decide (0 ≤ n) && decide (n ≤ dayI m) && decide (clearI m ((t + 1 : Nat) : Int) ≤ n) && decide (0 ≤ b) && decide (b ≤ 11) && decide (n ≤ clearI b t) && decide (cloudI m t ≤ cloudI m ((t + 1 : Nat) : Int)) && decide (cloudI m t ≤ 95) && (aboveI t n).contains (m : Int) && (aboveI t n).contains b
def yChk1 (t : Nat) : Bool := decide (yearI ((t + 1 : Nat) : Int) < ysum t 12) && (aboveI t 1000).isEmpty
set_option maxRecDepth 100000 in
theorem yAll : ((List.range 60).all fun t => yChk1 t && (List.range 12).all fun m => yChk t m) = true := by kernel_rfl
theorem year_facts {t m : Nat} (ht : t < 60) (hm : m < 12) : yChk1 t = true ∧ yChk t m = true := by
  have h := List.all_eq_true.1 yAll t (List.mem_range.2 ht)
  simp only [Bool.and_eq_true] at h
  exact ⟨h.1, List.all_eq_true.1 h.2 m (List.mem_range.2 hm)⟩
theorem year_ex {t m : Nat} (ht : t < 60) (hm : m < 12) : ∃ (n d n1 b nb c1 c0 s y1 : Int) (L : List Int),
    clearI m t = n ∧ dayI m = d ∧ clearI m ((t : Int) + 1) = n1 ∧ bestI t = b ∧ clearI b t = nb ∧ cloudI m ((t : Int) + 1) = c1 ∧ cloudI m t = c0 ∧ ysum t 12 = s ∧ yearI t = s ∧ yearI ((t : Int) + 1) = y1 ∧ aboveI t n = L ∧ aboveI t 1000 = [] ∧ L.contains (m : Int) = true ∧ L.contains b = true ∧
    (0 ≤ n ∧ n ≤ d ∧ n1 ≤ n ∧ 0 ≤ b ∧ b ≤ 11 ∧ n ≤ nb ∧ c0 ≤ c1 ∧ c0 ≤ 95 ∧ y1 < s) := by
  obtain ⟨h1, h2⟩ := year_facts ht hm
  simp only [yChk, yChk1, Bool.and_eq_true, decide_eq_true_eq, Int.natCast_add, Int.cast_ofNat_Int, List.isEmpty_iff] at h1 h2
  obtain ⟨g1, g2⟩ := h1
  obtain ⟨⟨⟨⟨⟨⟨⟨⟨⟨k0, k1⟩, k2⟩, k3⟩, k4⟩, k5⟩, k6⟩, k7⟩, k8⟩, k9⟩ := h2
  exact ⟨_, _, _, _, _, _, _, _, _, _, rfl, rfl, rfl, rfl, rfl, rfl, rfl, rfl, by unfold yearI; rw [if_pos (by rw [inB_iff]; omega)], rfl, rfl, g2, k8, k9, k0, k1, k2, k3, k4, k5, k6, k7, g1⟩
end Go.Proofs.YtkkpmpicaiflgaaDoor
