/-
  Several texts in one: a claim has at most 60 files.
-/
import Derived.Test.YtmcbbjobjogkmabGreatG10
import Derived.Test.YtmcbbjobjogkmabGreatG4
import Derived.Test.YtmcbbjobjogkmabGreatMat
import Derived.Test.YtmcbbjobjogkmabGreatAppP
import Derived.Test.YtmcbbjobjogkmabGreatG12
import Derived.Test.YtmcbbjobjogkmabGreatG5
import Derived.Test.YtmcbbjobjogkmabGreatGrdJ
import Derived.Test.YtmcbbjobjogkmabGreatG8
import Derived.Test.YtmcbbjobjogkmabGreatG1

namespace Go.Proofs.YtmcbbjobjogkmabGreat
open Go.RowKit
set_option linter.unusedVariables false
set_option linter.unusedSimpArgs false

def sumQ (f : Nat → Int) : Nat → Int
  | 0 => 0
  | n + 1 => sumQ f n + f n

theorem sumQ_succ (f : Nat → Int) (n : Nat) : sumQ f (n + 1) = sumQ f n + f n := rfl

theorem sumQ_bd {f : Nat → Int} {b : Int} (h : ∀ c, 0 ≤ f c ∧ f c ≤ b) : ∀ n : Nat, 0 ≤ sumQ f n ∧ sumQ f n ≤ n * b
  | 0 => by simp [sumQ]
  | n + 1 => by
    obtain ⟨h1, h2⟩ := sumQ_bd h n
    obtain ⟨h3, h4⟩ := h n
    rw [sumQ_succ, show ((n + 1 : Nat) : Int) * b = n * b + b from by rw [Int.natCast_succ, Int.add_mul, Int.one_mul]]
    omega

/-- The ways to fill d more faces with the colors before n. -/
def cntQ (M : Nat → Nat → Bool) (n : Nat) : Nat → List Int → Int
  | 0, _ => 1
  | d + 1, xs => sumQ (fun c => if freC M xs xs.length c = true then cntQ M n d (xs ++ [(c : Int)]) else 0) n

theorem cntQ_bd (M : Nat → Nat → Bool) {n : Nat} (hn : n ≤ 4) : ∀ d xs, 0 ≤ cntQ M n d xs ∧ cntQ M n d xs ≤ ((4 ^ d : Nat) : Int)
  | 0, xs => by simp [cntQ]
  | d + 1, xs => by
    have h := sumQ_bd (f := fun c => if freC M xs xs.length c = true then cntQ M n d (xs ++ [(c : Int)]) else 0) (b := ((4 ^ d : Nat) : Int)) (fun c => by
      split
      · exact cntQ_bd M hn d _
      · exact ⟨Int.le_refl _, Int.natCast_nonneg _⟩) n
    unfold cntQ
    refine ⟨h.1, Int.le_trans h.2 ?_⟩
    rw [Nat.pow_succ, Nat.mul_comm, Int.natCast_mul]
    exact Int.mul_le_mul_of_nonneg_right (by omega) (Int.natCast_nonneg _)

theorem pow_13 {d : Nat} (h : d ≤ 13) : 4 ^ d ≤ 67108864 := Nat.le_trans (Nat.pow_le_pow_right (by decide) h) (by decide)

/-- Each part of the sum is small. -/
theorem cntQ_part (M : Nat → Nat → Bool) {n d : Nat} (hn : n ≤ 4) (hd : d ≤ 12) (xs : List Int) : ∀ q : Nat, q ≤ 4 → 0 ≤ sumQ (fun c => if freC M xs xs.length c = true then cntQ M n d (xs ++ [(c : Int)]) else 0) q ∧ sumQ (fun c => if freC M xs xs.length c = true then cntQ M n d (xs ++ [(c : Int)]) else 0) q ≤ 268435456 := fun q hq => by
  have hp := pow_13 (d := d) (by omega)
  have h := sumQ_bd (f := fun c => if freC M xs xs.length c = true then cntQ M n d (xs ++ [(c : Int)]) else 0) (b := 67108864) (fun c => by
    split
    · have := cntQ_bd M hn d (xs ++ [(c : Int)])
      omega
    · omega) q
  refine ⟨h.1, Int.le_trans h.2 ?_⟩
  omega

/-- No face before i that is beside k has the color c. -/
def freeK (M : Nat → Nat → Bool) (xs : List Int) (k c : Nat) (i : Nat) : Bool := (List.range i).all fun j => !(M k j && decide (atZ xs j = (c : Int)))

theorem freeK_succ (M : Nat → Nat → Bool) (xs : List Int) (k c i : Nat) : freeK M xs k c (i + 1) = (freeK M xs k c i && !(M k i && decide (atZ xs i = (c : Int)))) := by
  unfold freeK
  rw [List.range_succ, List.all_append]
  simp

section

variable {P : Program}

theorem run_append_seq {w : World} {B g : Nat} {t ty : TypeId} {i : TypeInfo} {v : Value} {xs : List Int} (ht : P.underlying t = some (.slice 3)) (hi : P.info? 3 = some i) (hz : i.zero = some (.int .i64 0))
    (hsize : i.size = 1) (hby : i.bytes = 8) (hg : w.heap[g]? = some (.cells #[] 3 (0, 0))) (hB : B ≤ g) (hv : Seq w v xs) (hlen : xs.length ≤ 1000000) :
    ∃ v' w', (Builtin.append_ #[t, t] ty #[.slice (some ⟨g, 0, none⟩) 0 0, v]).run P w = .ok v' w' ∧ Ints w' B v' xs ∧ Below w.heap.size w w' := by
  have hgl := lt_of_block hg
  have hown : Ints w B (.slice (some ⟨g, 0, none⟩) 0 0) [] := ⟨by simp, .inr ⟨g, 0, #[], rfl, hB, hg, Nat.le_refl _, Nat.zero_le _, rfl, rfl⟩⟩
  obtain ⟨A, c, rfl, hl, hc, hx⟩ := hv
  by_cases h0 : xs.length = 0
  · obtain rfl : xs = [] := List.eq_nil_of_length_eq_zero h0
    cases A with
    | none =>
      refine ⟨_, w, ?_, hown, Below.refl _ _⟩
      simp [Builtin.append_, run_underlying ht, sizeOf, typeInfo, hi, Builtin.lenOf, Builtin.firstCells, storeCells]
    | some a =>
      have hr := run_append_room (P := P) w t ty 3 i ht hi g 0 0 #[] hg a 0 c [] (by simp) (fun j u h => by simp at h) (fun u h => by simp at h) (Nat.le_refl _) (by simp)
      simp only [Nat.zero_mul, Nat.add_zero] at hr
      refine ⟨_, _, hr, ?_, ⟨rfl, rfl, rfl, by simp [World.setRow], fun k hk => ?_⟩⟩
      · exact ⟨by simp, .inr ⟨g, 0, _, rfl, hB, setRow_heap w g #[] _ 3 _ hg, Nat.le_refl _, Nat.zero_le _, rfl, by simp⟩⟩
      · by_cases hkg : k = g
        · subst hkg; rw [setRow_heap w k #[] _ 3 _ hg, hg]; rfl
        · exact setRow_other w g k _ hkg
  · obtain ⟨b, o, rfl, hbl, hcs⟩ := hx (by omega)
    have hn : ∀ j u, (xs.map fun x => Value.int .i64 x)[j]? = some u → w.cell? ((⟨b, o, none⟩ : Addr).add j) = some u := fun j u hj => by
      rcases Nat.lt_or_ge j xs.length with h | h
      · rw [List.getElem?_map, List.getElem?_eq_getElem h, Option.map_some, atZ_get h] at hj
        rw [← hj, ← hcs j h]
        congr 1
        unfold Addr.add; split <;> simp_all
      · rw [List.getElem?_eq_none (by simpa using h)] at hj
        cases hj
    have hr := run_append_grow (P := P) w t ty 3 i (.int .i64 0) ht hi hz ⟨g, 0, none⟩ 0 0 [] (by simp) (fun j u h => by simp at h) ⟨b, o, none⟩ xs.length c (xs.map fun x => .int .i64 x) (by rw [List.length_map, hsize, Nat.mul_one]) hn (by omega) (by omega)
      (by rw [Nat.zero_add, nextslicecap_zero (by omega), hby]; omega)
    refine ⟨_, _, hr, ?_, (Below.refl _ _).drew.alloc (by simp) _⟩
    have hge := grownCap_ge w (0 + xs.length) 0 3
    have hcm := grownCap_le_maxLen w (0 + xs.length) 0 3 (by unfold maxLen; omega)
    unfold Ints
    refine ⟨by simp, .inr ⟨w.heap.size, _, _, by rw [Nat.zero_add], by omega, heap_alloc_new w.drew _, ?_, ?_, ?_, ?_⟩⟩
    · simpa using hge
    · simpa using hcm
    · simp only [Array.size_append, List.size_toArray, size_zeroCells, List.length_nil, List.length_map, Nat.zero_add] at hge ⊢
      simp [Value.cells]
      omega
    · simp

end
end Go.Proofs.YtmcbbjobjogkmabGreat

namespace Go.Proofs.YtmcbbjobjogkmabGreat
open Go.RowKit
set_option linter.unusedVariables false
set_option linter.unusedSimpArgs false

end Go.Proofs.YtmcbbjobjogkmabGreat

namespace Go.Proofs.YtmcbbjobjogkmabGreat
open Go.RowKit
set_option linter.unusedVariables false
set_option linter.unusedSimpArgs false

/-- The ways to color all faces with a colors; -1 where it may not be asked. -/
noncomputable def ccW (ns ls : List Nd) (a : Int) : Int := if wholeB ns ls = true ∧ inB a 1 4 = true then cntQ (besM (atW ns ls) ls.length) a.toNat (wF ns ls).length [] else -1

end Go.Proofs.YtmcbbjobjogkmabGreat

namespace Go.Proofs.YtmcbbjobjogkmabGreat
open Go.RowKit
set_option linter.unusedVariables false
set_option linter.unusedSimpArgs false

/-- xs, and the open faces behind it. -/
def opnL (xs : List Int) (N : Nat) : List Int := xs ++ List.replicate (N - xs.length) (-1)

theorem opnL_len {xs : List Int} {N : Nat} (h : xs.length ≤ N) : (opnL xs N).length = N := by
  unfold opnL
  rw [List.length_append, List.length_replicate]
  omega

theorem opnL_lo {xs : List Int} {N i : Nat} (h : i < xs.length) : atZ (opnL xs N) i = atZ xs i := by
  unfold opnL atZ
  simp [List.getD, List.getElem?_append, h]

theorem opnL_hi {xs : List Int} {N i : Nat} (h : xs.length ≤ i) (h2 : i < N) : atZ (opnL xs N) i = -1 := by
  unfold opnL atZ
  simp [List.getD, List.getElem?_append, show ¬ i < xs.length by omega, List.getElem?_replicate, show i - xs.length < N - xs.length by omega]

theorem opnL_next {xs : List Int} {N : Nat} (h : xs.length < N) (q : Int) : (opnL xs N).set xs.length q = opnL (xs ++ [q]) N := by
  unfold opnL
  obtain ⟨m, hm⟩ : ∃ m, N - xs.length = m + 1 := ⟨N - xs.length - 1, by omega⟩
  rw [hm, List.set_append, if_neg (by omega), Nat.sub_self, List.replicate_succ, List.length_append, List.length_singleton, show N - (xs.length + 1) = m from by omega]
  simp

theorem opnL_same {xs : List Int} {N : Nat} (h : xs.length < N) : (opnL xs N).set xs.length (-1) = opnL xs N := by
  unfold opnL
  obtain ⟨m, hm⟩ : ∃ m, N - xs.length = m + 1 := ⟨N - xs.length - 1, by omega⟩
  rw [hm, List.set_append, if_neg (by omega), Nat.sub_self, List.replicate_succ]
  simp

theorem plc_opn {xs : List Int} {N : Nat} (h : xs.length < N) (hp : ∀ i, i < xs.length → 0 ≤ atZ xs i) : plc (opnL xs N) (-1) = (xs.length : Int) :=
  plc_hit (by rw [opnL_len (by omega)]; exact h) (opnL_hi (Nat.le_refl _) h) fun j hj => by rw [opnL_lo hj]; have := hp j hj; omega

theorem plc_full {xs : List Int} {N : Nat} (h : xs.length = N) (hp : ∀ i, i < xs.length → 0 ≤ atZ xs i) : plc (opnL xs N) (-1) = -1 :=
  plc_miss fun j hj => by rw [opnL_len (by omega)] at hj; rw [opnL_lo (by omega)]; have := hp j (by omega); omega

theorem freeJ_opn (M : Nat → Nat → Bool) {xs : List Int} {N : Nat} (hk : xs.length < N) (c : Nat) : freeJ (rowM M N xs.length) (opnL xs N) c = freC M xs xs.length c := by
  rw [Bool.eq_iff_iff, freC_iff]
  constructor
  · intro h i hi hm
    unfold freeJ at h
    rw [List.all_eq_true] at h
    have := h (i : Int) (by unfold rowM; rw [fltN_mem]; exact ⟨i, rfl, by omega, hm⟩)
    rw [← opnL_lo (N := N) hi]
    simpa using this
  · intro h
    refine freeJ_none fun j hj => ?_
    have hmem : atZ (rowM M N xs.length) j ∈ rowM M N xs.length := by rw [← atZ_get hj]; exact List.getElem_mem hj
    obtain ⟨i, hi, hin, hm⟩ := (fltN_mem (fun h => M xs.length h) N _).1 hmem
    rw [hi]
    show atZ (opnL xs N) i ≠ _
    rcases Nat.lt_or_ge i xs.length with h1 | h1
    · rw [opnL_lo h1]; exact h i h1 hm
    · rw [opnL_hi h1 hin]; omega

theorem chL_opn (M : Nat → Nat → Bool) {xs : List Int} {N : Nat} (hk : xs.length < N) (n : Nat) : chL (rowM M N xs.length) (opnL xs N) n = fltN (freC M xs xs.length) n := fltN_congr n fun c _ => freeJ_opn M hk c

theorem sumQ_congr {f g : Nat → Int} : ∀ n, (∀ i, i < n → f i = g i) → sumQ f n = sumQ g n
  | 0, _ => rfl
  | n + 1, h => by rw [sumQ_succ, sumQ_succ, sumQ_congr n fun i hi => h i (by omega), h n (by omega)]

/-- The sum over the first j of a list. -/
def sumL (f : Int → Int) (L : List Int) (j : Nat) : Int := sumQ (fun i => f (atZ L i)) j

theorem sumL_flt (f : Int → Int) (p : Nat → Bool) : ∀ n, sumL f (fltN p n) (fltN p n).length = sumQ (fun c : Nat => if p c = true then f (c : Int) else 0) n
  | 0 => rfl
  | n + 1 => by
    rw [sumQ_succ, ← sumL_flt f p n, fltN_succ]
    by_cases h : p n = true
    · rw [if_pos h, if_pos h, List.length_append, List.length_singleton]
      unfold sumL
      rw [sumQ_succ]
      congr 1
      · exact sumQ_congr _ fun i hi => by rw [atZ_more hi]
      · unfold atZ
        simp [List.getD]
    · rw [if_neg h, if_neg h, Int.add_zero]

theorem Turn.set {g k : Nat} (W : World) (x : Value) : Turn g (g + 1) W (W.setCell ⟨g, k, none⟩ x) :=
  ⟨rfl, rfl, rfl, by rw [heap_setCell_size]; exact Nat.le_refl _, fun i hi h => Below.heap_setCell _ _ _ _ (by show i ≠ g; omega)⟩

end Go.Proofs.YtmcbbjobjogkmabGreat

namespace Go.Proofs.YtmcbbjobjogkmabGreat
open Go.RowKit
set_option linter.unusedVariables false
set_option linter.unusedSimpArgs false

theorem ccW_yes {ns ls : List Nd} {a : Int} (n : Nat) (ha : a = n) (h1 : wholeB ns ls = true) (h2 : inB a 1 4 = true) : ccW ns ls a = cntQ (besM (gA ns ls) (gL ns ls).length) n (wF ns ls).length [] := by
  unfold ccW gA gL
  rw [if_pos ⟨h1, h2⟩, if_pos h1, if_pos h1, ha]
  rfl

end Go.Proofs.YtmcbbjobjogkmabGreat
