/-
  Several texts in one: a claim has at most 60 files.
-/
import Derived.Test.YtepacoacalhdcaaGreatG12
import Derived.WalkKit
import Derived.Test.YtepacoacalhdcaaGreatG21

namespace Go.Proofs.YtepacoacalhdcaaGreat
open Go.RowKit
set_option linter.unusedVariables false
set_option linter.unusedSimpArgs false

theorem bv_nat {a : Nat} (h : a < 18446744073709551616) : (BitVec.ofInt 64 (a : Int)).toNat = a := by
  rw [BitVec.ofInt_natCast, BitVec.toNat_ofNat]
  exact Nat.mod_eq_of_lt (by omega)

theorem bits_and_nat {a b : Nat} (ha : a < 4611686018427387904) (hb : b < 4611686018427387904) : bits .and .i64 (a : Int) (b : Int) = ((a &&& b : Nat) : Int) := by
  have hx : a &&& b ≤ a := Nat.and_le_left
  show IntKind.i64.wrap ((BitVec.ofInt 64 (a : Int) &&& BitVec.ofInt 64 (b : Int)).toNat : Int) = _
  rw [BitVec.toNat_and, bv_nat (by omega), bv_nat (by omega)]
  exact IntWalk.i64_in _ (by omega)

theorem bits_or_nat {a b : Nat} (ha : a < 4611686018427387904) (hb : b < 4611686018427387904) : bits .or .i64 (a : Int) (b : Int) = ((a ||| b : Nat) : Int) := by
  have hx : a ||| b < 2 ^ 62 := Nat.or_lt_two_pow (by omega) (by omega)
  show IntKind.i64.wrap ((BitVec.ofInt 64 (a : Int) ||| BitVec.ofInt 64 (b : Int)).toNat : Int) = _
  rw [BitVec.toNat_or, bv_nat (by omega), bv_nat (by omega)]
  exact IntWalk.i64_in _ (by omega)

/-- What is in a and not in b. -/
def subN (a b : Nat) : Nat := a ^^^ (a &&& b)

theorem subN_bit (a b i : Nat) : (subN a b).testBit i = (a.testBit i && !b.testBit i) := by
  unfold subN
  rw [Nat.testBit_xor, Nat.testBit_and]
  cases a.testBit i <;> cases b.testBit i <;> rfl

theorem subN_le (a b : Nat) : subN a b ≤ a := by
  have h : subN a b = a &&& subN a b := Nat.eq_of_testBit_eq fun i => by
    rw [Nat.testBit_and, subN_bit]
    cases a.testBit i <;> simp
  rw [h]
  exact Nat.and_le_left

theorem bits_not_nat {a b : Nat} (ha : a < 4611686018427387904) (hb : b < 4611686018427387904) : bits .andNot .i64 (a : Int) (b : Int) = ((subN a b : Nat) : Int) := by
  have hx := subN_le a b
  show IntKind.i64.wrap ((BitVec.ofInt 64 (a : Int) &&& ~~~BitVec.ofInt 64 (b : Int)).toNat : Int) = _
  have he : (BitVec.ofInt 64 (a : Int) &&& ~~~BitVec.ofInt 64 (b : Int)).toNat = subN a b := Nat.eq_of_testBit_eq fun i => by
    rw [subN_bit, BitVec.testBit_toNat, BitVec.getLsbD_and, BitVec.getLsbD_not, ← BitVec.testBit_toNat, ← BitVec.testBit_toNat, bv_nat (by omega), bv_nat (by omega)]
    by_cases h : i < 64
    · simp [h]
    · have : a.testBit i = false := Nat.testBit_lt_two_pow (Nat.lt_of_lt_of_le (show a < 2 ^ 62 by omega) (Nat.pow_le_pow_right (by omega) (by omega)))
      rw [this]
      rfl
  rw [he]
  exact IntWalk.i64_in _ (by omega)

/-- A negative number has bits that no such set has. -/
theorem bits_not_neg {x : Int} {b : Nat} (hx : x < 0) (hw : -9223372036854775808 ≤ x) (hb : b < 4611686018427387904) : bits .andNot .i64 x (b : Int) ≠ 0 := by
  show IntKind.i64.wrap ((BitVec.ofInt 64 x &&& ~~~BitVec.ofInt 64 (b : Int)).toNat : Int) ≠ 0
  have h1 : (BitVec.ofInt 64 x).toNat = (x + 18446744073709551616).toNat := by
    rw [BitVec.toNat_ofInt]
    congr 1
    rw [show ((2 ^ 64 : Nat) : Int) = 18446744073709551616 from by decide]
    rw [← Int.add_emod_right]
    exact Int.emod_eq_of_lt (by omega) (by omega)
  have hbit : (BitVec.ofInt 64 x &&& ~~~BitVec.ofInt 64 (b : Int)).toNat.testBit 63 = true := by
    rw [BitVec.testBit_toNat, BitVec.getLsbD_and, BitVec.getLsbD_not, ← BitVec.testBit_toNat, ← BitVec.testBit_toNat, bv_nat (by omega), h1]
    have h2 : (x + 18446744073709551616).toNat.testBit 63 = true := by
      have h3 : 2 ^ 63 ≤ (x + 18446744073709551616).toNat := by omega
      have h4 : (x + 18446744073709551616).toNat < 2 ^ 64 := by omega
      rw [Nat.testBit_eq_decide_div_mod_eq]
      have : (x + 18446744073709551616).toNat / 2 ^ 63 = 1 := by omega
      rw [this]
      rfl
    have h5 : b.testBit 63 = false := Nat.testBit_lt_two_pow (by omega)
    rw [h2, h5]
    rfl
  have hge := Nat.ge_two_pow_of_testBit hbit
  have hlt := (BitVec.ofInt 64 x &&& ~~~BitVec.ofInt 64 (b : Int)).isLt
  generalize (BitVec.ofInt 64 x &&& ~~~BitVec.ofInt 64 (b : Int)).toNat = r at *
  rw [IntKind.wrap_i64]
  omega

theorem bit_at {s i : Nat} (hs : s < 4611686018427387904) : bits .and .i64 ((s : Int) / 2 ^ i) 1 = if s.testBit i = true then 1 else 0 := by
  have e : (s : Int) / 2 ^ i = ((s / 2 ^ i : Nat) : Int) := by simp
  have hle : s / 2 ^ i ≤ s := Nat.div_le_self _ _
  rw [e, show (1 : Int) = ((1 : Nat) : Int) from rfl, bits_and_nat (by omega) (by omega), Nat.testBit_eq_decide_div_mod_eq, Nat.and_one_is_mod]
  have := Nat.mod_lt (s / 2 ^ i) (show 2 > 0 by omega)
  by_cases h : s / 2 ^ i % 2 = 1
  · simp [h]
  · have h0 : s / 2 ^ i % 2 = 0 := by omega
    simp [h0]

theorem pow_in {i : Nat} (h : i ≤ 60) : 2 ^ i < 4611686018427387904 := Nat.lt_of_le_of_lt (Nat.pow_le_pow_right (by omega) h) (by decide)

theorem shl_one {i : Nat} (h : i ≤ 60) : IntKind.i64.wrap ((2 : Int) ^ i) = ((2 ^ i : Nat) : Int) := by
  have := pow_in h
  have e : ((2 : Int) ^ i) = ((2 ^ i : Nat) : Int) := by simp
  rw [e]
  generalize 2 ^ i = p at this
  exact IntWalk.i64_in _ (by omega)

theorem or_lt {a i : Nat} (ha : a < 4611686018427387904) (h : i ≤ 60) : a ||| 2 ^ i < 4611686018427387904 := Nat.or_lt_two_pow (n := 62) ha (Nat.lt_of_lt_of_le (pow_in h) (by decide))

theorem or_bit (a i j : Nat) : (a ||| 2 ^ i).testBit j = (a.testBit j || decide (i = j)) := by rw [Nat.testBit_or, Nat.testBit_two_pow]

/-- The least bit. -/
theorem low_is {s : Nat} (h : 0 < s) : ∃ m q : Nat, s = 2 ^ m * (2 * q + 1) := by
  induction s using Nat.strongRecOn with
  | _ s ih =>
    by_cases e : s % 2 = 1
    · exact ⟨0, s / 2, by omega⟩
    · obtain ⟨m, q, hq⟩ := ih (s / 2) (by omega) (by omega)
      exact ⟨m + 1, q, by rw [Nat.pow_succ, Nat.mul_assoc, Nat.mul_comm 2, ← Nat.mul_assoc, ← hq]; omega⟩

theorem low_bit {m q i : Nat} : (2 ^ m * (2 * q + 1)).testBit i = if i < m then false else (2 * q + 1).testBit (i - m) := by
  have := Nat.testBit_two_pow_mul_add (2 * q + 1) (b := 0) (i := m) (Nat.two_pow_pos m) i
  rw [Nat.add_zero] at this
  rw [this]
  split <;> simp

theorem bits_low {s m q : Nat} (hs : s = 2 ^ m * (2 * q + 1)) (hlt : s < 4611686018427387904) : bits .and .i64 (s : Int) (-(s : Int)) = ((2 ^ m : Nat) : Int) := by
  have hpos : 0 < s := by rw [hs]; exact Nat.mul_pos (Nat.two_pow_pos m) (by omega)
  show IntKind.i64.wrap ((BitVec.ofInt 64 (s : Int) &&& BitVec.ofInt 64 (-(s : Int))).toNat : Int) = _
  have h1 : (BitVec.ofInt 64 (-(s : Int))).toNat = 2 ^ 64 - (s - 1 + 1) := by
    rw [BitVec.toNat_ofInt]
    rw [show ((2 ^ 64 : Nat) : Int) = 18446744073709551616 from by decide]
    rw [← Int.add_emod_right, Int.emod_eq_of_lt (by omega) (by omega)]
    omega
  have hm : 2 ^ m ≤ s := by
    rw [hs]
    exact Nat.le_mul_of_pos_right _ (by omega)
  have he : (BitVec.ofInt 64 (s : Int) &&& BitVec.ofInt 64 (-(s : Int))).toNat = 2 ^ m := Nat.eq_of_testBit_eq fun i => by
    rw [BitVec.toNat_and, bv_nat (by omega), h1, Nat.testBit_and, Nat.testBit_two_pow_sub_succ (by omega), Nat.testBit_two_pow]
    have hs1 : s - 1 = 2 ^ m * (2 * q) + (2 ^ m - 1) := by
      have := Nat.two_pow_pos m
      rw [hs, Nat.mul_add, Nat.mul_one]
      omega
    have hb1 : (s - 1).testBit i = if i < m then (2 ^ m - 1).testBit i else (2 * q).testBit (i - m) := by
      rw [hs1]
      exact Nat.testBit_two_pow_mul_add (2 * q) (b := 2 ^ m - 1) (i := m) (by have := Nat.two_pow_pos m; omega) i
    rw [hb1]
    conv => lhs; rw [hs]
    rw [low_bit]
    by_cases hi : i < m
    · rw [if_pos hi, if_pos hi]
      have : ¬ m = i := by omega
      simp [this]
    · rw [if_neg hi, if_neg hi]
      by_cases he : m = i
      · subst he
        have hm64 : m < 64 := by
          have h6 : 2 ^ m < 2 ^ 64 := Nat.lt_of_le_of_lt hm (by omega)
          exact (Nat.pow_lt_pow_iff_right (by omega)).1 h6
        simp [hm64, Nat.testBit_zero]
      · obtain ⟨j, hj⟩ : ∃ j, i - m = j + 1 := ⟨i - m - 1, by omega⟩
        rw [hj, Nat.testBit_succ, Nat.testBit_succ, show (2 * q + 1) / 2 = q by omega, show 2 * q / 2 = q by omega]
        cases q.testBit j <;> simp [he]
  rw [he]
  exact IntWalk.i64_in _ (by omega)

/-- The set of the numbers of a list. -/
def setN (xs : List Int) : Nat := xs.foldl (fun s x => s ||| 2 ^ x.toNat) 0

theorem setN_succ {xs : List Int} {k : Nat} (h : k < xs.length) : setN (xs.take (k + 1)) = setN (xs.take k) ||| 2 ^ (atZ xs k).toNat := by
  unfold setN
  rw [List.take_succ_eq_append_getElem h, List.foldl_append, atZ_get h]
  rfl

theorem setN_bit : ∀ (xs : List Int) (s i : Nat), (xs.foldl (fun s x => s ||| 2 ^ x.toNat) s).testBit i = (s.testBit i || xs.any fun x => decide (x.toNat = i))
  | [], s, i => by simp
  | x :: xs, s, i => by
    rw [List.foldl_cons, setN_bit xs, or_bit, List.any_cons, Bool.or_assoc]

theorem setN_lt : ∀ (xs : List Int) (s : Nat), (∀ x, x ∈ xs → x.toNat ≤ 60) → s < 4611686018427387904 → xs.foldl (fun s x => s ||| 2 ^ x.toNat) s < 4611686018427387904
  | [], s, _, h => h
  | x :: xs, s, hx, h => setN_lt xs _ (fun y hy => hx y (by simp [hy])) (or_lt h (hx x (by simp)))

def bset (p : Nat → Bool) (n : Nat) : Nat := setN (fltN p n)

theorem bset_bit (p : Nat → Bool) (n i : Nat) : (bset p n).testBit i = (decide (i < n) && p i) := by
  unfold bset setN
  rw [setN_bit, Nat.zero_testBit, Bool.false_or, Bool.eq_iff_iff, List.any_eq_true]
  simp only [Bool.and_eq_true, decide_eq_true_eq]
  constructor
  · rintro ⟨x, hx, he⟩
    obtain ⟨q, rfl, h1, h2⟩ := (fltN_mem _ _ _).1 hx
    simp at he
    subst he
    exact ⟨h1, h2⟩
  · rintro ⟨h1, h2⟩
    exact ⟨(i : Int), (fltN_mem _ _ _).2 ⟨i, rfl, h1, h2⟩, by simp⟩

theorem bset_lt (p : Nat → Bool) {n : Nat} (h : n ≤ 60) : bset p n < 4611686018427387904 := setN_lt _ _ (fun x hx => by
  obtain ⟨q, rfl, h1, _⟩ := (fltN_mem _ _ _).1 hx
  simp
  omega) (by decide)

/-! ### what hangs together -/
inductive Rch (M : Nat → Nat → Bool) (S : Nat → Bool) (a : Nat) : Nat → Prop
  | base : Rch M S a a
  | step {f g : Nat} : Rch M S a f → S g = true → M f g = true → Rch M S a g

def cntB (p : Nat → Bool) : Nat → Nat
  | 0 => 0
  | n + 1 => cntB p n + if p n = true then 1 else 0

theorem cntB_le (p : Nat → Bool) : ∀ n, cntB p n ≤ n
  | 0 => Nat.le_refl _
  | n + 1 => by
    have := cntB_le p n
    unfold cntB
    split <;> omega

theorem cntB_mono {p q : Nat → Bool} : ∀ n, (∀ i, i < n → p i = true → q i = true) → cntB p n ≤ cntB q n ∧ ((∃ i, i < n ∧ q i = true ∧ p i = false) → cntB p n < cntB q n)
  | 0, _ => ⟨Nat.le_refl _, fun ⟨i, hi, _⟩ => by omega⟩
  | n + 1, h => by
    obtain ⟨h1, h2⟩ := cntB_mono n fun i hi => h i (by omega)
    have h3 := h n (by omega)
    unfold cntB
    refine ⟨?_, fun ⟨i, hi, hq, hp⟩ => ?_⟩
    · split <;> split <;> first | omega | (simp_all)
    · by_cases e : i = n
      · subst e
        rw [if_neg (by rw [hp]; simp), if_pos hq]
        omega
      · have := h2 ⟨i, by omega, hq, hp⟩
        split <;> split <;> first | omega | (simp_all)

/-- Rounds that add all neighbours, and nothing that cannot be reached, reach all within N rounds. -/
theorem reach_all {M : Nat → Nat → Bool} {S : Nat → Bool} {N a : Nat} (T : Nat → Nat → Bool) (ha : T 0 a = true) (haN : a < N) (hS : ∀ i, S i = true → i < N) (hmono : ∀ k i, T k i = true → T (k + 1) i = true)
    (hgrow : ∀ k f g, T k f = true → S g = true → M f g = true → T (k + 1) g = true) (i : Nat) (hr : Rch M S a i) : T N i = true := by
  have hup : ∀ d k i, T k i = true → T (k + d) i = true := by
    intro d
    induction d with
    | zero => exact fun k i h => h
    | succ d ih => exact fun k i h => hmono _ _ (ih k i h)
  have hstab : ∃ k, k ≤ N ∧ ∀ i, i < N → T (k + 1) i = true → T k i = true := by
    refine Classical.byContradiction fun hno => ?_
    have hc : ∀ k, k ≤ N → k ≤ cntB (T k) N := by
      intro k
      induction k with
      | zero => exact fun _ => Nat.zero_le _
      | succ k ih =>
        intro hk
        have ih := ih (by omega)
        obtain ⟨h1, h2⟩ := cntB_mono (p := T k) (q := T (k + 1)) N fun i _ h => hmono k i h
        have : ∃ i, i < N ∧ T (k + 1) i = true ∧ T k i = false := by
          refine Classical.byContradiction fun hn => hno ⟨k, by omega, fun i hi ht => ?_⟩
          cases e : T k i
          · exact absurd ⟨i, hi, ht, e⟩ hn
          · rfl
        have := h2 this
        omega
    have h1 := hc N (Nat.le_refl _)
    have h2 := cntB_le (T N) N
    refine hno ⟨N, Nat.le_refl _, fun i hi _ => ?_⟩
    cases e : T N i
    · have h3 := cntB_mono (p := T N) (q := fun _ => true) N fun _ _ _ => rfl
      have h4 := h3.2 ⟨i, hi, rfl, e⟩
      have h5 := cntB_le (fun _ => true) N
      omega
    · rfl
  obtain ⟨k, hk, hst⟩ := hstab
  have hall : ∀ i, Rch M S a i → T k i = true := by
    intro i hr
    induction hr with
    | base => have := hup k 0 a ha; rwa [Nat.zero_add] at this
    | step _ hs hm ih => exact hst _ (hS _ hs) (hgrow k _ _ ih hs hm)
  have := hup (N - k) k i (hall i hr)
  rwa [show k + (N - k) = N by omega] at this
end Go.Proofs.YtepacoacalhdcaaGreat

namespace Go.Proofs.YtepacoacalhdcaaGreat
open Go.RowKit
set_option linter.unusedVariables false
set_option linter.unusedSimpArgs false

/-- All faces but the wall around; the faces beside a face. -/
def inN (out N : Nat) : Nat := bset (fun i => decide (i ≠ out)) N

def besN (M : Nat → Nat → Bool) (N f : Nat) : Nat := bset (fun h => M f h) N

theorem inN_bit (out N i : Nat) : (inN out N).testBit i = (decide (i < N) && decide (i ≠ out)) := bset_bit _ _ _

theorem besN_bit (M : Nat → Nat → Bool) (N f i : Nat) : (besN M N f).testBit i = (decide (i < N) && M f i) := bset_bit _ _ _

/-- Whether a face can be set next, after those of D. -/
def nextP (M : Nat → Nat → Bool) (N out D f : Nat) : Bool := (inN out N).testBit f && (!D.testBit f && (decide (D = 0) || decide (besN M N f &&& D ≠ 0)))

def nextL (M : Nat → Nat → Bool) (N out D : Nat) : List Int := fltN (nextP M N out D) N

theorem bits_zero {D : Nat} : D = 0 ↔ ∀ i, D.testBit i = false := by
  constructor
  · rintro rfl i; simp
  · intro h
    exact Nat.eq_of_testBit_eq fun i => by rw [h i]; simp

theorem and_hit {a b : Nat} : a &&& b ≠ 0 ↔ ∃ i, a.testBit i = true ∧ b.testBit i = true := by
  constructor
  · intro h
    refine Classical.byContradiction fun hn => h (bits_zero.2 fun i => ?_)
    rw [Nat.testBit_and]
    cases e1 : a.testBit i
    · rfl
    · cases e2 : b.testBit i
      · rfl
      · exact absurd ⟨i, e1, e2⟩ hn
  · rintro ⟨i, h1, h2⟩ h
    have := bits_zero.1 h i
    rw [Nat.testBit_and, h1, h2] at this
    cases this

theorem setN_atA (xs : List Int) (i : Nat) : (setN xs).testBit i = xs.any fun x => decide (x.toNat = i) := by
  unfold setN
  rw [setN_bit, Nat.zero_testBit, Bool.false_or]

/-- Each of the first k can be set when those before it are. -/
def StpOk (M : Nat → Nat → Bool) (N out : Nat) (xs : List Int) (i : Nat) : Prop :=
  ∃ q : Nat, atZ xs i = q ∧ q < N ∧ q ≠ out ∧ (∀ j, j < i → atZ xs j ≠ (q : Int)) ∧ (i = 0 ∨ ∃ j, j < i ∧ M (atZ xs j).toNat q = true)

def AsOk (M : Nat → Nat → Bool) (N out : Nat) (xs : List Int) (k : Nat) : Prop := ∀ i, i < k → StpOk M N out xs i

theorem AsOk.zero (M : Nat → Nat → Bool) (N out : Nat) (xs : List Int) : AsOk M N out xs 0 := fun i h => by omega

theorem AsOk.succ {M : Nat → Nat → Bool} {N out : Nat} {xs : List Int} {k : Nat} (h : AsOk M N out xs k) (hk : StpOk M N out xs k) : AsOk M N out xs (k + 1) := fun i hi => by
  by_cases e : i = k
  · subst e; exact hk
  · exact h i (by omega)

open Classical in
noncomputable def asB (M : Nat → Nat → Bool) (N out : Nat) (xs : List Int) : Bool := decide (AsOk M N out xs xs.length ∧ xs.length + 1 = N)

theorem asB_no {M : Nat → Nat → Bool} {N out : Nat} {xs : List Int} {k : Nat} (hk : k < xs.length) (h : ¬ StpOk M N out xs k) : asB M N out xs = false := by
  unfold asB
  rw [decide_eq_false_iff_not]
  exact fun e => h (e.1 k hk)

theorem take_any {xs : List Int} {k : Nat} (hk : k ≤ xs.length) (p : Int → Bool) : (xs.take k).any p = true ↔ ∃ j, j < k ∧ p (atZ xs j) = true := by
  rw [List.any_eq_true]
  constructor
  · rintro ⟨x, hx, hp⟩
    obtain ⟨j, hj, rfl⟩ := List.getElem_of_mem hx
    rw [List.length_take] at hj
    refine ⟨j, by omega, ?_⟩
    rw [List.getElem_take] at hp
    rw [← atZ_get (by omega)]
    exact hp
  · rintro ⟨j, hj, hp⟩
    refine ⟨atZ xs j, ?_, hp⟩
    rw [← atZ_get (by omega : j < xs.length)]
    exact List.mem_take_iff_getElem.2 ⟨j, by omega, rfl⟩

theorem fltN_but (out : Nat) : ∀ n, (fltN (fun i => decide (i ≠ out)) n).length + (if out < n then 1 else 0) = n
  | 0 => by simp [fltN]
  | n + 1 => by
    have ih := fltN_but out n
    rw [fltN_succ]
    by_cases e : n = out
    · subst e
      rw [if_neg (by simp)]
      simp at ih ⊢
      omega
    · rw [if_pos (by simp [e])]
      simp only [List.length_append, List.length_cons, List.length_nil]
      by_cases h : out < n
      · rw [if_pos h] at ih
        rw [if_pos (by omega)]
        omega
      · rw [if_neg h] at ih
        rw [if_neg (by omega)]
        omega

section

variable {M : Nat → Nat → Bool} {N out : Nat} {xs : List Int} {k : Nat}

theorem done_bit (hk : k ≤ xs.length) (h : AsOk M N out xs k) (i : Nat) : (setN (xs.take k)).testBit i = true ↔ ∃ j, j < k ∧ atZ xs j = (i : Int) := by
  rw [setN_atA, take_any hk]
  constructor
  · rintro ⟨j, hj, e⟩
    obtain ⟨q, hq, _⟩ := h j hj
    refine ⟨j, hj, ?_⟩
    rw [hq] at e ⊢
    simp at e
    omega
  · rintro ⟨j, hj, e⟩
    exact ⟨j, hj, by rw [e]; simp⟩

/-- The program's question for the next face. -/
theorem next_iff (hsym : ∀ i j, M i j = M j i) (hk : k < xs.length) (h : AsOk M N out xs k) : (nextL M N out (setN (xs.take k))).contains (atZ xs k) = true ↔ StpOk M N out xs k := by
  have hd := done_bit (by omega) h
  have h0 : setN (xs.take k) = 0 ↔ k = 0 := by
    rw [bits_zero]
    constructor
    · intro hz
      refine Classical.byContradiction fun hne => ?_
      obtain ⟨q, hq, _⟩ := h 0 (by omega)
      have := (hd q).2 ⟨0, by omega, hq⟩
      rw [hz q] at this
      cases this
    · rintro rfl i
      rw [Bool.eq_false_iff]
      intro e
      obtain ⟨j, hj, _⟩ := (hd i).1 e
      omega
  rw [List.contains_iff_mem]
  unfold nextL
  rw [fltN_mem]
  unfold StpOk
  constructor
  · rintro ⟨q, hq, hqN, hp⟩
    unfold nextP at hp
    rw [inN_bit] at hp
    simp only [Bool.and_eq_true, Bool.or_eq_true, decide_eq_true_eq, Bool.not_eq_true'] at hp
    obtain ⟨⟨_, ho⟩, hn, hz⟩ := hp
    refine ⟨q, hq, hqN, ho, fun j hj e => ?_, ?_⟩
    · have := (hd q).2 ⟨j, hj, e⟩
      rw [hn] at this
      cases this
    · rcases hz with hz | hz
      · exact .inl (h0.1 hz)
      · obtain ⟨i, h1, h2⟩ := and_hit.1 hz
        rw [besN_bit] at h1
        simp only [Bool.and_eq_true, decide_eq_true_eq] at h1
        obtain ⟨j, hj, e⟩ := (hd i).1 h2
        exact .inr ⟨j, hj, by rw [e, Int.toNat_natCast, hsym]; exact h1.2⟩
  · rintro ⟨q, hq, hqN, ho, hn, hz⟩
    refine ⟨q, hq, hqN, ?_⟩
    unfold nextP
    rw [inN_bit]
    simp only [Bool.and_eq_true, Bool.or_eq_true, decide_eq_true_eq, Bool.not_eq_true']
    refine ⟨⟨hqN, ho⟩, ?_, ?_⟩
    · rw [Bool.eq_false_iff]
      intro e
      obtain ⟨j, hj, e2⟩ := (hd q).1 e
      exact hn j hj e2
    · rcases hz with hz | ⟨j, hj, hm⟩
      · exact .inl (h0.2 hz)
      · obtain ⟨i, hi, hiN, _⟩ := h j hj
        refine .inr (and_hit.2 ⟨i, ?_, (hd i).2 ⟨j, hj, hi⟩⟩)
        rw [besN_bit]
        rw [hi, Int.toNat_natCast, hsym] at hm
        simp [hiN, hm]

theorem ok_nodup (h : AsOk M N out xs xs.length) : xs.Nodup := by
  rw [List.nodup_iff_pairwise_ne, List.pairwise_iff_getElem]
  intro i j hi hj hij
  rw [atZ_get hi, atZ_get hj]
  obtain ⟨q, hq, _, _, hn, _⟩ := h j hj
  rw [hq]
  exact hn i hij

theorem ok_mem (h : AsOk M N out xs xs.length) {x : Int} (hx : x ∈ xs) : ∃ q : Nat, x = q ∧ q < N ∧ q ≠ out := by
  obtain ⟨j, hj, rfl⟩ := List.getElem_of_mem hx
  obtain ⟨q, hq, h1, h2, _⟩ := h j hj
  exact ⟨q, by rw [atZ_get hj]; exact hq, h1, h2⟩

theorem ok_len (hout : out < N) (h : AsOk M N out xs xs.length) : xs.length + 1 ≤ N := by
  have := nodup_le N ((out : Int) :: xs) (by
    rw [List.nodup_cons]
    refine ⟨fun hm => ?_, ok_nodup h⟩
    obtain ⟨q, h1, _, h2⟩ := ok_mem h hm
    omega) (fun x hx => by
    rw [List.mem_cons] at hx
    rcases hx with rfl | hx
    · exact ⟨out, rfl, hout⟩
    · obtain ⟨q, h1, h2, _⟩ := ok_mem h hx
      exact ⟨q, h1, h2⟩)
  simpa using this

/-- So many different faces are all that there are. -/
theorem done_iff (hout : out < N) (h : AsOk M N out xs xs.length) : setN xs = inN out N ↔ xs.length + 1 = N := by
  have hd := done_bit (Nat.le_refl _) h
  rw [List.take_length] at hd
  constructor
  · intro e
    refine Nat.le_antisymm (ok_len hout h) ?_
    refine Classical.byContradiction fun hlt => ?_
    have hbits : ∀ i : Nat, i < N → i ≠ out → (i : Int) ∈ xs := by
      intro i hi ho
      have : (setN xs).testBit i = true := by rw [e, inN_bit]; simp [hi, ho]
      obtain ⟨j, hj, e2⟩ := (hd i).1 this
      rw [← e2, ← atZ_get hj]
      exact List.getElem_mem hj
    have hp : xs.Perm (fltN (fun i => decide (i ≠ out)) N) := by
      refine (List.perm_ext_iff_of_nodup (ok_nodup h) ((fltN_asc _ _).imp fun h => by omega)).2 fun a => ?_
      rw [fltN_mem]
      constructor
      · intro ha
        obtain ⟨q, h1, h2, h3⟩ := ok_mem h ha
        exact ⟨q, h1, h2, by simp [h3]⟩
      · rintro ⟨i, rfl, hi, ho⟩
        exact hbits i hi (of_decide_eq_true ho)
    have h1 := hp.length_eq
    have h2 := fltN_but out N
    rw [if_pos hout] at h2
    omega
  · intro hl
    refine Nat.eq_of_testBit_eq fun i => ?_
    rw [inN_bit, Bool.eq_iff_iff, hd]
    simp only [Bool.and_eq_true, decide_eq_true_eq]
    constructor
    · rintro ⟨j, hj, e⟩
      obtain ⟨q, hq, h1, h2, _⟩ := h j hj
      obtain rfl : q = i := by omega
      exact ⟨h1, h2⟩
    · rintro ⟨hi, ho⟩
      refine Classical.byContradiction fun hno => ?_
      have hni : (i : Int) ∉ xs := fun hm => by
        obtain ⟨j, hj, e⟩ := List.getElem_of_mem hm
        exact hno ⟨j, hj, by rw [← atZ_get hj]; exact e⟩
      have := nodup_le N ((i : Int) :: (out : Int) :: xs) (by
        rw [List.nodup_cons, List.nodup_cons]
        refine ⟨fun hm => ?_, fun hm => ?_, ok_nodup h⟩
        · rw [List.mem_cons] at hm
          rcases hm with e | hm
          · omega
          · exact hni hm
        · obtain ⟨q, h1, _, h2⟩ := ok_mem h hm
          omega) (fun x hx => by
        rw [List.mem_cons, List.mem_cons] at hx
        rcases hx with rfl | rfl | hx
        · exact ⟨i, rfl, hi⟩
        · exact ⟨out, rfl, hout⟩
        · obtain ⟨q, h1, h2, _⟩ := ok_mem h hx
          exact ⟨q, h1, h2⟩)
      simp at this
      omega

theorem asB_end (hout : out < N) (h : AsOk M N out xs xs.length) : asB M N out xs = decide (setN xs = inN out N) := by
  unfold asB
  rw [decide_eq_decide, done_iff hout h]
  exact ⟨fun e => e.2, fun e => ⟨h, e⟩⟩

end
/-! ### one order -/

/-- The first n faces of the order that takes the first face which can be set. -/
def faS (M : Nat → Nat → Bool) (N out first : Nat) : Nat → List Int
  | 0 => [(first : Int)]
  | n + 1 => match nextL M N out (setN (faS M N out first n)) with
    | [] => faS M N out first n
    | f :: _ => faS M N out first n ++ [f]
end Go.Proofs.YtepacoacalhdcaaGreat

namespace Go.Proofs.YtepacoacalhdcaaGreat
open Go.RowKit
set_option linter.unusedVariables false
set_option linter.unusedSimpArgs false

/-- All of s can be reached from a within s. -/
def AllR (M : Nat → Nat → Bool) (s a : Nat) : Prop := ∀ i, s.testBit i = true → Rch M (fun j => s.testBit j) a i

/-- a is the least one of s. -/
def LowB (s a : Nat) : Prop := s.testBit a = true ∧ ∀ j, j < a → s.testBit j = false

theorem lowB_ex {s : Nat} (h : 0 < s) : ∃ a, LowB s a := by
  obtain ⟨m, q, e⟩ := low_is h
  refine ⟨m, ?_, fun j hj => ?_⟩
  · rw [e, low_bit, if_neg (by omega), Nat.sub_self, Nat.testBit_zero]
    simp
  · rw [e, low_bit, if_pos hj]

theorem LowB.unique {s a b : Nat} (ha : LowB s a) (hb : LowB s b) : a = b := by
  rcases Nat.lt_trichotomy a b with h | h | h
  · have h1 := ha.1
    rw [hb.2 a h] at h1; cases h1
  · exact h
  · have h1 := hb.1
    rw [ha.2 b h] at h1; cases h1

theorem LowB.is {s a : Nat} (h : LowB s a) : ∃ q, s = 2 ^ a * (2 * q + 1) := by
  have hs : 0 < s := Nat.pos_of_ne_zero fun e => by rw [e] at h; simp [LowB] at h
  obtain ⟨m, q, e⟩ := low_is hs
  have hm : LowB s m := by
    refine ⟨?_, fun j hj => ?_⟩
    · rw [e, low_bit, if_neg (by omega), Nat.sub_self, Nat.testBit_zero]
      simp
    · rw [e, low_bit, if_pos hj]
  rw [h.unique hm]
  exact ⟨q, e⟩

theorem Rch.in_ {M : Nat → Nat → Bool} {s a i : Nat} (ha : s.testBit a = true) (h : Rch M (fun j => s.testBit j) a i) : s.testBit i = true := by
  cases h with
  | base => exact ha
  | step _ hs _ => exact hs

/-- Sets of which each is reached, and that grow as they can, become all of s. -/
theorem joined_iff {M : Nat → Nat → Bool} {N s a : Nat} (T : Nat → Nat) (ha : LowB s a) (hs : ∀ i, s.testBit i = true → i < N) (h0 : T 0 = 2 ^ a) (hin : ∀ k i, (T k).testBit i = true → Rch M (fun j => s.testBit j) a i)
    (hmono : ∀ k i, (T k).testBit i = true → (T (k + 1)).testBit i = true) (hgrow : ∀ k f g, (T k).testBit f = true → s.testBit g = true → M f g = true → (T (k + 1)).testBit g = true) : T N = s ↔ AllR M s a := by
  constructor
  · intro e i hi
    rw [← e] at hi
    exact hin N i hi
  · intro h
    refine Nat.eq_of_testBit_eq fun i => ?_
    rw [Bool.eq_iff_iff]
    constructor
    · intro hi
      exact Rch.in_ ha.1 (hin N i hi)
    · intro hi
      exact reach_all (fun k i => (T k).testBit i) (by show (T 0).testBit a = true; rw [h0, Nat.testBit_two_pow]; simp) (hs a ha.1) hs hmono hgrow i (h i hi)

/-! ### the model's rounds -/

def jS (M : Nat → Nat → Bool) (s f g got : Nat) : Nat := if (got.testBit f && (s.testBit g && M f g)) = true then got ||| 2 ^ g else got

def jG (M : Nat → Nat → Bool) (s f : Nat) (got : Nat) : Nat → Nat
  | 0 => got
  | n + 1 => jS M s f n (jG M s f got n)

def jF (M : Nat → Nat → Bool) (s N : Nat) (got : Nat) : Nat → Nat
  | 0 => got
  | n + 1 => jG M s n (jF M s N got n) N

def jR (M : Nat → Nat → Bool) (s N a : Nat) : Nat → Nat
  | 0 => 2 ^ a
  | n + 1 => jF M s N (jR M s N a n) N

section

variable {M : Nat → Nat → Bool} {s N a : Nat}

theorem jS_mono {f g got i : Nat} (h : got.testBit i = true) : (jS M s f g got).testBit i = true := by
  unfold jS
  split
  · rw [or_bit, h]; rfl
  · exact h

theorem jG_mono {f got i : Nat} (h : got.testBit i = true) : ∀ n, (jG M s f got n).testBit i = true
  | 0 => h
  | n + 1 => jS_mono (jG_mono h n)

theorem jF_mono {got i : Nat} (h : got.testBit i = true) : ∀ n, (jF M s N got n).testBit i = true
  | 0 => h
  | n + 1 => jG_mono (jF_mono h n) N

theorem jS_in {f g got : Nat} (h : ∀ i, got.testBit i = true → Rch M (fun j => s.testBit j) a i) : ∀ i, (jS M s f g got).testBit i = true → Rch M (fun j => s.testBit j) a i := by
  intro i hi
  unfold jS at hi
  split at hi
  · rename_i e
    rw [or_bit] at hi
    simp only [Bool.and_eq_true] at e
    simp only [Bool.or_eq_true, decide_eq_true_eq] at hi
    rcases hi with hi | hi
    · exact h i hi
    · subst hi
      exact .step (h f e.1) e.2.1 e.2.2
  · exact h i hi

theorem jG_in {f got : Nat} (h : ∀ i, got.testBit i = true → Rch M (fun j => s.testBit j) a i) : ∀ n i, (jG M s f got n).testBit i = true → Rch M (fun j => s.testBit j) a i
  | 0 => h
  | n + 1 => jS_in (jG_in h n)

theorem jF_in {got : Nat} (h : ∀ i, got.testBit i = true → Rch M (fun j => s.testBit j) a i) : ∀ n i, (jF M s N got n).testBit i = true → Rch M (fun j => s.testBit j) a i
  | 0 => h
  | n + 1 => jG_in (jF_in h n) N

theorem jR_in : ∀ n i, (jR M s N a n).testBit i = true → Rch M (fun j => s.testBit j) a i
  | 0, i, h => by
    unfold jR at h
    rw [Nat.testBit_two_pow] at h
    have : a = i := by simpa using h
    subst this
    exact .base
  | n + 1, i, h => jF_in (jR_in n) N i h

theorem jG_hit {f g got : Nat} (hf : got.testBit f = true) (hg : s.testBit g = true) (hm : M f g = true) : ∀ n, g < n → (jG M s f got n).testBit g = true
  | 0, h => by omega
  | n + 1, h => by
    by_cases e : g = n
    · subst e
      show (jS M s f g (jG M s f got g)).testBit g = true
      unfold jS
      rw [jG_mono hf g, hg, hm]
      simp only [Bool.and_self, if_true]
      rw [or_bit]
      simp
    · exact jS_mono (jG_hit hf hg hm n (by omega))

theorem jF_hit {f g got : Nat} (hf : got.testBit f = true) (hg : s.testBit g = true) (hm : M f g = true) (hgN : g < N) : ∀ n, f < n → (jF M s N got n).testBit g = true
  | 0, h => by omega
  | n + 1, h => by
    by_cases e : f = n
    · subst e
      exact jG_hit (jF_mono hf f) hg hm N hgN
    · exact jG_mono (jF_hit hf hg hm hgN n (by omega)) N

theorem jR_iff (ha : LowB s a) (hs : ∀ i, s.testBit i = true → i < N) : jR M s N a N = s ↔ AllR M s a :=
  joined_iff (jR M s N a) ha hs rfl jR_in (fun k i h => jF_mono h N) (fun k f g h1 h2 h3 => jF_hit h1 h2 h3 (hs g h2) N (hs f (Rch.in_ ha.1 (jR_in k f h1))))

theorem jS_lt {f g got : Nat} (hg : g ≤ 60) (h : got < 4611686018427387904) : jS M s f g got < 4611686018427387904 := by
  unfold jS
  split
  · exact or_lt h hg
  · exact h

theorem jG_lt {f got : Nat} (h : got < 4611686018427387904) : ∀ n, n ≤ 60 → jG M s f got n < 4611686018427387904
  | 0, _ => h
  | n + 1, hn => jS_lt (by omega) (jG_lt h n (by omega))

theorem jF_lt {got : Nat} (hN : N ≤ 60) (h : got < 4611686018427387904) : ∀ n, jF M s N got n < 4611686018427387904
  | 0 => h
  | n + 1 => jG_lt (jF_lt hN h n) N hN

theorem jR_lt (hN : N ≤ 60) (ha : a ≤ 60) : ∀ n, jR M s N a n < 4611686018427387904
  | 0 => pow_in ha
  | n + 1 => jF_lt hN (jR_lt hN ha n) N

end
/-! ### the program's rounds -/

def kS (s : Nat) (r : Nat) (f : Int) : Nat := if s.testBit f.toNat = true then r ||| 2 ^ f.toNat else r

def kF (s : Nat) (l : List Int) (r : Nat) : Nat := l.foldl (kS s) r

def kR (M : Nat → Nat → Bool) (N out s a : Nat) : Nat → Nat
  | 0 => 2 ^ a
  | n + 1 => kF s (nextL M N out (kR M N out s a n)) (kR M N out s a n)

section

variable {M : Nat → Nat → Bool} {N out s a : Nat}

theorem kF_succ {l : List Int} {r j : Nat} (hj : j < l.length) : kF s (l.take (j + 1)) r = kS s (kF s (l.take j) r) (atZ l j) := by
  unfold kF
  rw [List.take_succ_eq_append_getElem hj, List.foldl_append, atZ_get hj]
  rfl

theorem kF_bit : ∀ (l : List Int) (r i : Nat), (kF s l r).testBit i = (r.testBit i || (s.testBit i && l.any fun x => decide (x.toNat = i)))
  | [], r, i => by simp [kF]
  | x :: l, r, i => by
    have ih := kF_bit l (kS s r x) i
    show (kF s l (kS s r x)).testBit i = _
    rw [ih]
    unfold kS
    by_cases h : s.testBit x.toNat = true
    · rw [if_pos h, or_bit, List.any_cons]
      by_cases e : x.toNat = i
      · subst e
        rw [h]
        simp
      · rw [decide_eq_false e]
        simp
    · rw [if_neg h, List.any_cons]
      by_cases e : x.toNat = i
      · subst e
        rw [Bool.not_eq_true] at h
        rw [h]
        simp
      · rw [decide_eq_false e]
        simp

theorem next_any {D i : Nat} : ((nextL M N out D).any fun x => decide (x.toNat = i)) = true ↔ i < N ∧ nextP M N out D i = true := by
  rw [List.any_eq_true]
  unfold nextL
  constructor
  · rintro ⟨x, hx, e⟩
    obtain ⟨q, rfl, h1, h2⟩ := (fltN_mem _ _ _).1 hx
    have : q = i := by simpa using e
    subst this
    exact ⟨h1, h2⟩
  · rintro ⟨h1, h2⟩
    exact ⟨(i : Int), (fltN_mem _ _ _).2 ⟨i, rfl, h1, h2⟩, by simp⟩

theorem kR_in (hsym : ∀ i j, M i j = M j i) : ∀ n i, (kR M N out s a n).testBit i = true → Rch M (fun j => s.testBit j) a i
  | 0, i, h => by
    unfold kR at h
    rw [Nat.testBit_two_pow] at h
    have : a = i := by simpa using h
    subst this
    exact .base
  | n + 1, i, h => by
    have ih := kR_in hsym n
    have hne : kR M N out s a n ≠ 0 := by
      have : ∀ n, (kR M N out s a n).testBit a = true := by
        intro n
        induction n with
        | zero => unfold kR; rw [Nat.testBit_two_pow]; simp
        | succ n ih => unfold kR; rw [kF_bit, ih]; rfl
      intro e
      have := this n
      rw [e] at this
      simp at this
    unfold kR at h
    rw [kF_bit] at h
    simp only [Bool.or_eq_true, Bool.and_eq_true] at h
    rcases h with h | ⟨h1, h2⟩
    · exact ih i h
    · obtain ⟨hi, hp⟩ := next_any.1 h2
      unfold nextP at hp
      simp only [Bool.and_eq_true, Bool.or_eq_true, decide_eq_true_eq] at hp
      rcases hp.2.2 with hz | hz
      · exact absurd hz hne
      · obtain ⟨j, h3, h4⟩ := and_hit.1 hz
        rw [besN_bit] at h3
        simp only [Bool.and_eq_true, decide_eq_true_eq] at h3
        exact .step (ih j h4) h1 (by rw [hsym]; exact h3.2)

theorem kR_iff (hsym : ∀ i j, M i j = M j i) (ha : LowB s a) (hs : ∀ i, s.testBit i = true → i < N ∧ i ≠ out) : kR M N out s a N = s ↔ AllR M s a :=
  joined_iff (kR M N out s a) ha (fun i h => (hs i h).1) rfl (kR_in hsym) (fun k i h => by
    show (kF s _ _).testBit i = true
    rw [kF_bit, h]; rfl) (fun k f g h1 h2 h3 => by
    show (kF s _ _).testBit g = true
    rw [kF_bit, h2]
    by_cases hg : (kR M N out s a k).testBit g = true
    · rw [hg]; rfl
    · have : ((nextL M N out (kR M N out s a k)).any fun x => decide (x.toNat = g)) = true := by
        rw [next_any]
        refine ⟨(hs g h2).1, ?_⟩
        unfold nextP
        rw [inN_bit]
        simp only [Bool.and_eq_true, Bool.or_eq_true, decide_eq_true_eq, Bool.not_eq_true']
        refine ⟨hs g h2, by simpa using hg, .inr (and_hit.2 ⟨f, ?_, h1⟩)⟩
        rw [besN_bit, hsym, h3]
        simp
        exact (hs f (Rch.in_ ha.1 (kR_in hsym k f h1))).1
      rw [this]
      simp)

theorem kF_lt : ∀ (l : List Int) (r : Nat), (∀ x, x ∈ l → x.toNat ≤ 60) → r < 4611686018427387904 → kF s l r < 4611686018427387904
  | [], r, _, h => h
  | x :: l, r, hx, h => by
    show kF s l (kS s r x) < _
    refine kF_lt l _ (fun y hy => hx y (by simp [hy])) ?_
    unfold kS
    split
    · exact or_lt h (hx x (by simp))
    · exact h

theorem next_le {D : Nat} (hN : N ≤ 60) : ∀ x, x ∈ nextL M N out D → ∃ q : Nat, x = q ∧ q < N := fun x hx => by
  obtain ⟨q, h1, h2, _⟩ := (fltN_mem _ _ _).1 hx
  exact ⟨q, h1, h2⟩

theorem kR_lt (hN : N ≤ 60) (ha : a ≤ 60) : ∀ n, kR M N out s a n < 4611686018427387904
  | 0 => pow_in ha
  | n + 1 => kF_lt _ _ (fun x hx => by
      obtain ⟨q, rfl, h⟩ := next_le hN x hx
      simp
      omega) (kR_lt hN ha n)

end
/-! ### what is asked for -/

/-- A set of inner faces that hang together. -/
def JndP (M : Nat → Nat → Bool) (N out : Nat) (x : Int) : Prop := ∃ s a : Nat, x = s ∧ LowB s a ∧ (∀ i, s.testBit i = true → i < N ∧ i ≠ out) ∧ AllR M s a

open Classical in
noncomputable def jndB (M : Nat → Nat → Bool) (N out : Nat) (x : Int) : Bool := decide (JndP M N out x)

theorem jnd_no {M : Nat → Nat → Bool} {N out : Nat} {x : Int} (h : x ≤ 0) : jndB M N out x = false := by
  unfold jndB
  rw [decide_eq_false_iff_not]
  rintro ⟨s, a, rfl, h1, _⟩
  have : s = 0 := by omega
  subst this
  simp [LowB] at h1

theorem jnd_out {M : Nat → Nat → Bool} {N out s : Nat} (h : ¬ ∀ i, s.testBit i = true → i < N ∧ i ≠ out) : jndB M N out (s : Int) = false := by
  unfold jndB
  rw [decide_eq_false_iff_not]
  rintro ⟨s', a, e, _, h2, _⟩
  obtain rfl : s = s' := by omega
  exact h h2

theorem jnd_is {M : Nat → Nat → Bool} {N out s a : Nat} (ha : LowB s a) (h : ∀ i, s.testBit i = true → i < N ∧ i ≠ out) : jndB M N out (s : Int) = true ↔ AllR M s a := by
  unfold jndB
  simp only [decide_eq_true_eq]
  constructor
  · rintro ⟨s', a', e, h1, _, h3⟩
    obtain rfl : s = s' := by omega
    rw [ha.unique h1]
    exact h3
  · exact fun h3 => ⟨s, a, rfl, ha, h, h3⟩

/-- The faces that can be taken away first: what is left hangs together, or is nothing. -/
noncomputable def lsfP (M : Nat → Nat → Bool) (N out s f : Nat) : Bool := s.testBit f && (decide (s = 2 ^ f) || jndB M N out ((s - 2 ^ f : Nat) : Int))

theorem sub_bit {s f : Nat} (h : s.testBit f = true) (i : Nat) : (s - 2 ^ f).testBit i = (s.testBit i && !decide (i = f)) := by
  rw [Nat.testBit_eq_decide_div_mod_eq, decide_eq_true_eq] at h
  have hs := Nat.div_add_mod s (2 ^ f)
  have hr := Nat.mod_lt s (Nat.two_pow_pos f)
  obtain ⟨q, hq⟩ : ∃ q, s / 2 ^ f = 2 * q + 1 := ⟨s / 2 ^ f / 2, by omega⟩
  rw [hq] at hs
  generalize s % 2 ^ f = r at *
  have e1 : s.testBit i = (2 ^ f * (2 * q + 1) + r).testBit i := by rw [hs]
  have e2 : s - 2 ^ f = 2 ^ f * (2 * q) + r := by rw [← hs, Nat.mul_add, Nat.mul_one]; omega
  rw [e1, e2, Nat.testBit_two_pow_mul_add _ hr, Nat.testBit_two_pow_mul_add _ hr]
  by_cases h1 : i < f
  · rw [if_pos h1, if_pos h1, decide_eq_false (by omega)]
    simp
  · rw [if_neg h1, if_neg h1]
    by_cases h2 : i = f
    · subst h2
      simp
    · obtain ⟨j, hj⟩ : ∃ j, i - f = j + 1 := ⟨i - f - 1, by omega⟩
      rw [hj, Nat.testBit_succ, Nat.testBit_succ, show (2 * q + 1) / 2 = q by omega, show 2 * q / 2 = q by omega, decide_eq_false h2]
      simp
end Go.Proofs.YtepacoacalhdcaaGreat

namespace Go.Proofs.YtepacoacalhdcaaGreat
open Go.RowKit
set_option linter.unusedVariables false
set_option linter.unusedSimpArgs false

theorem atZ_low {xs ys : List Int} {i : Nat} (h : i < xs.length) : atZ (xs ++ ys) i = atZ xs i := by
  rw [← atZ_get (by simp; omega), ← atZ_get h, List.getElem_append_left h]

theorem atZ_end (xs : List Int) (x : Int) : atZ (xs ++ [x]) xs.length = x := by
  rw [← atZ_get (by simp)]
  simp

theorem asOk_low {M : Nat → Nat → Bool} {N out : Nat} {xs ys : List Int} {k : Nat} (hk : k ≤ xs.length) (h : AsOk M N out xs k) : AsOk M N out (xs ++ ys) k := by
  intro i hi
  obtain ⟨q, h1, h2, h3, h4, h5⟩ := h i hi
  refine ⟨q, by rw [atZ_low (by omega)]; exact h1, h2, h3, fun j hj => by rw [atZ_low (by omega)]; exact h4 j hj, ?_⟩
  rcases h5 with h5 | ⟨j, hj, h6⟩
  · exact .inl h5
  · exact .inr ⟨j, hj, by rw [atZ_low (by omega)]; exact h6⟩

/-- Different faces. -/
def Good (N : Nat) (xs : List Int) : Prop := xs.Nodup ∧ ∀ x, x ∈ xs → ∃ q : Nat, x = q ∧ q < N

theorem Good.len {N : Nat} {xs : List Int} (h : Good N xs) : xs.length ≤ N := nodup_le N xs h.1 h.2

theorem Good.bit {N : Nat} {xs : List Int} (h : Good N xs) (i : Nat) : (setN xs).testBit i = true ↔ (i : Int) ∈ xs := by
  rw [setN_atA, List.any_eq_true]
  constructor
  · rintro ⟨x, hx, e⟩
    obtain ⟨q, rfl, _⟩ := h.2 x hx
    simp at e
    rw [← e]
    exact hx
  · exact fun hx => ⟨i, hx, by simp⟩

theorem Good.at_ {N : Nat} {xs : List Int} (h : Good N xs) {i : Nat} (hi : i < xs.length) : ∃ q : Nat, atZ xs i = q ∧ q < N := h.2 _ (by rw [← atZ_get hi]; exact List.getElem_mem hi)

/-- Which face the model looks for: not the wall, not there, beside one that is. -/
def lookP (M : Nat → Nat → Bool) (out : Nat) (xs : List Int) (f : Nat) : Bool := !((f : Int) == (out : Int) || xs.contains (f : Int)) && xs.any fun x => M x.toNat f

theorem look_next {M : Nat → Nat → Bool} {N out : Nat} {xs : List Int} (hsym : ∀ i j, M i j = M j i) (h : Good N xs) (h0 : xs ≠ []) {f : Nat} (hf : f < N) : nextP M N out (setN xs) f = lookP M out xs f := by
  have hz : setN xs ≠ 0 := by
    intro hz
    obtain ⟨x, t, rfl⟩ := List.exists_cons_of_ne_nil h0
    obtain ⟨q, hq, _⟩ := h.2 x (by simp)
    have := (h.bit q).2 (by simp [hq])
    rw [hz] at this
    simp at this
  rw [Bool.eq_iff_iff]
  unfold nextP lookP
  rw [inN_bit]
  simp only [Bool.and_eq_true, Bool.or_eq_true, decide_eq_true_eq, Bool.not_eq_true', Bool.or_eq_false_iff, List.any_eq_true]
  constructor
  · rintro ⟨⟨_, ho⟩, hn, hb⟩
    refine ⟨⟨by rw [beq_eq_false_iff_ne]; omega, ?_⟩, ?_⟩
    · rw [Bool.eq_false_iff]
      intro e
      rw [(h.bit f).2 (List.contains_iff_mem.1 e)] at hn
      cases hn
    · rcases hb with hb | hb
      · exact absurd hb hz
      · obtain ⟨i, h1, h2⟩ := and_hit.1 hb
        rw [besN_bit] at h1
        simp only [Bool.and_eq_true, decide_eq_true_eq] at h1
        exact ⟨i, (h.bit i).1 h2, by rw [Int.toNat_natCast, hsym]; exact h1.2⟩
  · rintro ⟨⟨ho, hn⟩, x, hx, hm⟩
    obtain ⟨q, rfl, hq⟩ := h.2 x hx
    refine ⟨⟨hf, fun e => by rw [beq_eq_false_iff_ne] at ho; omega⟩, ?_, .inr (and_hit.2 ⟨q, ?_, (h.bit q).2 hx⟩)⟩
    · rw [Bool.eq_false_iff]
      intro e
      rw [List.contains_iff_mem.2 ((h.bit f).1 e)] at hn
      cases hn
    · rw [besN_bit]
      rw [Int.toNat_natCast, hsym] at hm
      simp [hq, hm]

/-- The least one of a list of faces in ascending order. -/
theorem fltN_first {p : Nat → Bool} {n : Nat} {x : Int} {t : List Int} (h : fltN p n = x :: t) : ∃ f : Nat, x = f ∧ f < n ∧ p f = true ∧ ∀ i, i < f → p i = false := by
  have ha := fltN_asc p n
  obtain ⟨f, hf, hn, hp⟩ := (fltN_mem p n x).1 (by rw [h]; simp)
  refine ⟨f, hf, hn, hp, fun i hi => ?_⟩
  rw [Bool.eq_false_iff]
  intro e
  have hm := (fltN_mem p n (i : Int)).2 ⟨i, rfl, by omega, e⟩
  rw [h, List.mem_cons] at hm
  rw [h, List.pairwise_cons] at ha
  rcases hm with hm | hm
  · omega
  · have := ha.1 _ hm
    omega

theorem fltN_empty {p : Nat → Bool} {n : Nat} : fltN p n = [] ↔ ∀ i, i < n → p i = false := by
  constructor
  · intro h i hi
    rw [Bool.eq_false_iff]
    intro e
    have := (fltN_mem p n (i : Int)).2 ⟨i, rfl, hi, e⟩
    rw [h] at this
    cases this
  · intro h
    rw [List.eq_nil_iff_forall_not_mem]
    intro x hx
    obtain ⟨i, _, hi, e⟩ := (fltN_mem p n x).1 hx
    rw [h i hi] at e
    cases e

section

variable {M : Nat → Nat → Bool} {N out first : Nat}

theorem faS_succ (n : Nat) : faS M N out first (n + 1) = (match nextL M N out (setN (faS M N out first n)) with | [] => faS M N out first n | f :: _ => faS M N out first n ++ [f]) := rfl

theorem faS_end {n : Nat} (h : nextL M N out (setN (faS M N out first n)) = []) : ∀ m, faS M N out first (n + m) = faS M N out first n
  | 0 => rfl
  | m + 1 => by
    have ih := faS_end h m
    show faS M N out first (n + m + 1) = _
    rw [faS_succ, ih, h]

theorem faS_next {n f : Nat} {t : List Int} (h : nextL M N out (setN (faS M N out first n)) = (f : Int) :: t) : faS M N out first (n + 1) = faS M N out first n ++ [(f : Int)] := by
  rw [faS_succ, h]

theorem faS_head : ∀ n, 0 < (faS M N out first n).length ∧ atZ (faS M N out first n) 0 = (first : Int)
  | 0 => ⟨by simp [faS], by simp [faS, atZ]⟩
  | n + 1 => by
    have ih := faS_head n
    rw [faS_succ]
    split
    · exact ih
    · exact ⟨by simp, by rw [atZ_low ih.1]; exact ih.2⟩

/-- After n more faces. -/
def FasAt (M : Nat → Nat → Bool) (N out first n : Nat) (xs : List Int) : Prop := xs = faS M N out first n ∧ xs.length = n + 1 ∧ Good N xs ∧ (first ≠ out → AsOk M N out xs xs.length)

theorem FasAt.zero (hf : first < N) : FasAt M N out first 0 [(first : Int)] := by
  refine ⟨rfl, rfl, ⟨by simp, fun x hx => ⟨first, by simpa using hx, hf⟩⟩, fun ho i hi => ?_⟩
  have : i = 0 := by simp at hi; omega
  subst this
  exact ⟨first, by simp [atZ], hf, ho, fun j hj => by omega, .inl rfl⟩

theorem FasAt.pos {n : Nat} {xs : List Int} (h : FasAt M N out first n xs) : xs ≠ [] := fun e => by have := h.2.1; rw [e] at this; simp at this

theorem FasAt.lt {n : Nat} {xs : List Int} (h : FasAt M N out first n xs) : n < N := by have := h.2.2.1.len; have := h.2.1; omega

theorem FasAt.next (hsym : ∀ i j, M i j = M j i) {n f : Nat} {xs t : List Int} (h : FasAt M N out first n xs) (hn : nextL M N out (setN xs) = (f : Int) :: t) : FasAt M N out first (n + 1) (xs ++ [(f : Int)]) := by
  obtain ⟨h1, h2, h3, h4⟩ := h
  obtain ⟨f', e, hf, hp, _⟩ := fltN_first hn
  obtain rfl : f = f' := by omega
  have h0 : xs ≠ [] := fun e => by rw [e] at h2; simp at h2
  rw [look_next hsym h3 h0 hf] at hp
  unfold lookP at hp
  simp only [Bool.and_eq_true, Bool.not_eq_true', Bool.or_eq_false_iff] at hp
  refine ⟨?_, by simp [h2], ⟨?_, ?_⟩, fun ho => ?_⟩
  · rw [h1] at hn ⊢
    exact (faS_next hn).symm
  · rw [List.nodup_append]
    refine ⟨h3.1, by simp, ?_⟩
    intro a ha b hb e
    simp at hb
    subst hb
    subst e
    rw [List.contains_iff_mem.2 ha] at hp
    simp at hp
  · intro x hx
    rw [List.mem_append] at hx
    rcases hx with hx | hx
    · exact h3.2 x hx
    · exact ⟨f, by simpa using hx, hf⟩
  · have ha := asOk_low (ys := [(f : Int)]) (Nat.le_refl _) (h4 ho)
    have hl : (xs ++ [(f : Int)]).length = xs.length + 1 := by simp
    rw [hl]
    refine ha.succ ((next_iff hsym (by omega) ha).1 ?_)
    rw [atZ_end, List.take_left, hn]
    simp

theorem FasAt.done {n : Nat} {xs : List Int} (h : FasAt M N out first n xs) (hn : nextL M N out (setN xs) = []) : xs = faS M N out first N := by
  have hl := h.lt
  obtain ⟨h1, _⟩ := h
  rw [h1] at hn ⊢
  have := faS_end hn (N - n)
  rw [show n + (N - n) = N by omega] at this
  exact this.symm

theorem asB_wall (n : Nat) : asB M N first (faS M N first first n) = false := by
  have hh := faS_head (M := M) (N := N) (out := first) (first := first) n
  refine asB_no (k := 0) hh.1 ?_
  rintro ⟨q, h1, _, h2, _⟩
  rw [hh.2] at h1
  omega

theorem first_next {x : Int} : (nextL M N out 0).contains x = true ↔ ∃ q : Nat, x = q ∧ q < N ∧ q ≠ out := by
  rw [List.contains_iff_mem]
  unfold nextL
  rw [fltN_mem]
  constructor
  · rintro ⟨i, h1, h2, h3⟩
    unfold nextP at h3
    rw [inN_bit] at h3
    simp at h3
    exact ⟨i, h1, h2, h3.2⟩
  · rintro ⟨q, h1, h2, h3⟩
    refine ⟨q, h1, h2, ?_⟩
    unfold nextP
    rw [inN_bit]
    simp [h2, h3]

end
/-! ### the model looks from the last face down -/

/-- The least face from j on that is looked for, or -1. -/
def BestR (p : Nat → Bool) (N j : Nat) (b : Int) : Prop := (b = -1 ∧ ∀ f, j ≤ f → f < N → p f = false) ∨ ∃ f : Nat, b = f ∧ j ≤ f ∧ f < N ∧ p f = true ∧ ∀ i, j ≤ i → i < f → p i = false

theorem BestR.none (p : Nat → Bool) (N : Nat) : BestR p N N (-1) := .inl ⟨rfl, fun f h1 h2 => by omega⟩

theorem BestR.skip {p : Nat → Bool} {N j : Nat} {b : Int} (h : BestR p N (j + 1) b) (hp : p j = false) : BestR p N j b := by
  rcases h with ⟨h1, h2⟩ | ⟨f, h1, h2, h3, h4, h5⟩
  · refine .inl ⟨h1, fun f hf hn => ?_⟩
    by_cases e : f = j
    · subst e; exact hp
    · exact h2 f (by omega) hn
  · refine .inr ⟨f, h1, by omega, h3, h4, fun i hi hif => ?_⟩
    by_cases e : i = j
    · subst e; exact hp
    · exact h5 i (by omega) hif

theorem BestR.take {p : Nat → Bool} {N j : Nat} (hj : j < N) (hp : p j = true) : BestR p N j (j : Int) := .inr ⟨j, rfl, Nat.le_refl _, hj, hp, fun i h1 h2 => by omega⟩

theorem BestR.end_ {p : Nat → Bool} {N : Nat} {b : Int} (h : BestR p N 0 b) : (b = -1 ∧ fltN p N = []) ∨ ∃ (f : Nat) (t : List Int), b = f ∧ f < N ∧ fltN p N = (f : Int) :: t := by
  rcases h with ⟨h1, h2⟩ | ⟨f, h1, _, h3, h4, h5⟩
  · exact .inl ⟨h1, fltN_empty.2 fun i hi => h2 i (by omega) hi⟩
  · cases hl : fltN p N with
    | nil =>
      rw [fltN_empty.1 hl f h3] at h4
      cases h4
    | cons x t =>
      obtain ⟨g, rfl, hg, hp, hb⟩ := fltN_first hl
      have : g = f := by
        rcases Nat.lt_trichotomy g f with h | h | h
        · rw [h5 g (by omega) h] at hp; cases hp
        · exact h
        · rw [hb f h] at h4; cases h4
      subst this
      exact .inr ⟨g, t, h1, h3, rfl⟩

theorem fltN_same {p q : Nat → Bool} : ∀ {n : Nat}, (∀ k, k < n → p k = q k) → fltN p n = fltN q n
  | 0, _ => rfl
  | n + 1, h => by rw [fltN_succ, fltN_succ, fltN_same fun k hk => h k (by omega), h n (by omega)]
end Go.Proofs.YtepacoacalhdcaaGreat
