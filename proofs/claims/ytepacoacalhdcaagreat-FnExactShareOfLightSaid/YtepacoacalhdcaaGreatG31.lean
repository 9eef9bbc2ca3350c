/-
  Several texts in one: a claim has at most 60 files.
-/
import Derived.Test.YtepacoacalhdcaaGreatG1

namespace Go.Proofs.YtepacoacalhdcaaGreat
open Go.RowKit
set_option linter.unusedVariables false
set_option linter.unusedSimpArgs false

theorem between_parts {a b k : Nd} (h : betweenB a b k = true) : (okB a = true ∧ okB b = true ∧ okB k = true) ∧ (a ≠ b ∧ b ≠ k ∧ a ≠ k) ∧ turnI a b k = 0 ∧ (min a.x b.x ≤ k.x ∧ k.x ≤ max a.x b.x) ∧ (min a.y b.y ≤ k.y ∧ k.y ≤ max a.y b.y) := by
  unfold betweenB at h
  simp only [Bool.and_eq_true, decide_eq_true_eq, inB_iff] at h
  obtain ⟨⟨⟨⟨⟨⟨⟨h1, h2⟩, h3⟩, h4⟩, h5⟩, h6⟩, h7⟩, h8, h9⟩ := h
  exact ⟨⟨h1, h2, h3⟩, ⟨h4, h5, h6⟩, h7, h8, h9⟩

theorem between_mk {a b k : Nd} (h1 : okB a = true ∧ okB b = true ∧ okB k = true) (h2 : a ≠ b ∧ b ≠ k ∧ a ≠ k) (h3 : turnI a b k = 0) (h4 : min a.x b.x ≤ k.x ∧ k.x ≤ max a.x b.x) (h5 : min a.y b.y ≤ k.y ∧ k.y ≤ max a.y b.y) : betweenB a b k = true := by
  unfold betweenB
  simp only [Bool.and_eq_true, decide_eq_true_eq, inB_iff]
  exact ⟨⟨⟨⟨⟨⟨⟨h1.1, h1.2.1⟩, h1.2.2⟩, h2.1⟩, h2.2.1⟩, h2.2.2⟩, h3⟩, h4, h5⟩

/-- The square of the way from a to b, and how far k lies along it. -/
def sqI (a b : Nd) : Int := (b.x - a.x) * (b.x - a.x) + (b.y - a.y) * (b.y - a.y)

def alI (a b k : Nd) : Int := (b.x - a.x) * (k.x - a.x) + (b.y - a.y) * (k.y - a.y)

theorem sq_self {x : Int} (h : x ≠ 0) : 0 < x * x := by
  rcases Int.lt_trichotomy x 0 with h1 | h1 | h1
  · exact Int.mul_pos_of_neg_of_neg h1 h1
  · exact absurd h1 h
  · exact Int.mul_pos h1 h1

theorem sq_nonneg (x : Int) : 0 ≤ x * x := by
  by_cases h : x = 0
  · subst h; simp
  · exact Int.le_of_lt (sq_self h)

theorem sqI_pos {a b : Nd} (h : a ≠ b) : 0 < sqI a b := by
  unfold sqI
  rcases nd_ne.1 h with e | e
  · have h1 := sq_self (x := b.x - a.x) (by omega)
    have h2 := sq_nonneg (b.y - a.y)
    omega
  · have h1 := sq_self (x := b.y - a.y) (by omega)
    have h2 := sq_nonneg (b.x - a.x)
    omega

theorem same_mul {u w : Int} (h : (0 ≤ w ∧ w ≤ u) ∨ (u ≤ w ∧ w ≤ 0)) : 0 ≤ u * w ∧ (w ≠ 0 → 0 < u * w) := by
  refine ⟨?_, fun hw => ?_⟩
  · rcases h with ⟨h1, h2⟩ | ⟨h1, h2⟩
    · exact Int.mul_nonneg (by omega) h1
    · exact Int.mul_nonneg_of_nonpos_of_nonpos (by omega) h2
  · rcases h with ⟨h1, h2⟩ | ⟨h1, h2⟩
    · exact Int.mul_pos (by omega) (by omega)
    · exact Int.mul_pos_of_neg_of_neg (by omega) (by omega)

theorem box_way {a b k : Int} (h : min a b ≤ k ∧ k ≤ max a b) : (0 ≤ k - a ∧ k - a ≤ b - a) ∨ (b - a ≤ k - a ∧ k - a ≤ 0) := by omega

theorem alI_pos {a b k : Nd} (h : betweenB a b k = true) : 0 < alI a b k := by
  obtain ⟨_, ⟨_, _, hne⟩, _, hx, hy⟩ := between_parts h
  obtain ⟨h1, h2⟩ := same_mul (box_way hx)
  obtain ⟨h3, h4⟩ := same_mul (box_way hy)
  unfold alI
  rcases nd_ne.1 hne with e | e
  · have := h2 (by omega); omega
  · have := h4 (by omega); omega

theorem sign_of {p q S D : Int} (hS : 0 < S) (hD : 0 < D) (h : p * S = q * D) : (p < 0 ↔ q < 0) ∧ (0 < p ↔ 0 < q) ∧ (p = 0 ↔ q = 0) := by
  have key : ∀ {p q S D : Int}, 0 < S → 0 < D → p * S = q * D → (p < 0 → q < 0) ∧ (0 < p → 0 < q) := by
    intro p q S D hS hD h
    refine ⟨fun hp => ?_, fun hp => ?_⟩
    · have h1 : p * S < 0 := Int.mul_neg_of_neg_of_pos hp hS
      refine Int.not_le.1 fun hq => ?_
      have := Int.mul_nonneg hq (Int.le_of_lt hD)
      omega
    · have h1 : 0 < p * S := Int.mul_pos hp hS
      refine Int.not_le.1 fun hq => ?_
      have := Int.mul_nonpos_of_nonpos_of_nonneg hq (Int.le_of_lt hD)
      omega
  obtain ⟨a1, a2⟩ := key hS hD h
  obtain ⟨b1, b2⟩ := key hD hS h.symm
  exact ⟨⟨a1, b1⟩, ⟨a2, b2⟩, by omega⟩

theorem turn_scale {a b k : Nd} (h : turnI a b k = 0) (c : Nd) : turnI a k c * sqI a b = turnI a b c * alI a b k := by
  unfold turnI sqI alI at *
  grind

theorem turn_neg (a b c : Nd) : turnI b a c = -turnI a b c := by unfold turnI; grind

/-- A point has the same side of the whole as of the first part. -/
theorem side_first {a b k : Nd} (h : betweenB a b k = true) (c : Nd) : (turnI a k c < 0 ↔ turnI a b c < 0) ∧ (0 < turnI a k c ↔ 0 < turnI a b c) ∧ (turnI a k c = 0 ↔ turnI a b c = 0) :=
  sign_of (sqI_pos (between_parts h).2.1.1) (alI_pos h) (turn_scale (between_parts h).2.2.1 c)

theorem side_last {a b k : Nd} (h : betweenB a b k = true) (c : Nd) : (turnI k b c < 0 ↔ turnI a b c < 0) ∧ (0 < turnI k b c ↔ 0 < turnI a b c) ∧ (turnI k b c = 0 ↔ turnI a b c = 0) := by
  have h1 := side_first (a := b) (b := a) (k := k) (by rw [between_comm]; exact h) c
  rw [turn_neg k b c, turn_neg a b c] at h1
  omega

theorem opp_iff (p q : Int) : p * q < 0 ↔ (p < 0 ∧ 0 < q) ∨ (0 < p ∧ q < 0) := by
  constructor
  · intro h
    rcases Int.lt_trichotomy p 0 with h1 | h1 | h1
    · rcases Int.lt_trichotomy q 0 with h2 | h2 | h2
      · have := Int.mul_pos_of_neg_of_neg h1 h2; omega
      · subst h2; simp at h
      · exact .inl ⟨h1, h2⟩
    · subst h1; simp at h
    · rcases Int.lt_trichotomy q 0 with h2 | h2 | h2
      · exact .inr ⟨h1, h2⟩
      · subst h2; simp at h
      · have := Int.mul_pos h1 h2; omega
  · rintro (⟨h1, h2⟩ | ⟨h1, h2⟩)
    · exact Int.mul_neg_of_neg_of_pos h1 h2
    · exact Int.mul_neg_of_pos_of_neg h1 h2

theorem sep_opp {a b u v : Nd} : sepB a b u v = true ↔ (turnI a b u < 0 ∧ 0 < turnI a b v) ∨ (0 < turnI a b u ∧ turnI a b v < 0) := by rw [sep_iff, opp_iff]

theorem sep_first {a b k : Nd} (h : betweenB a b k = true) (c d : Nd) : sepB a k c d = sepB a b c d := by
  have h1 := side_first h c
  have h2 := side_first h d
  rw [Bool.eq_iff_iff, sep_opp, sep_opp]
  omega

theorem sep_last {a b k : Nd} (h : betweenB a b k = true) (c d : Nd) : sepB k b c d = sepB a b c d := by
  have h1 := side_last h c
  have h2 := side_last h d
  rw [Bool.eq_iff_iff, sep_opp, sep_opp]
  omega

/-- Where two endless lines meet lies between two points on different sides. -/
theorem cut_way {a b k c d : Nd} (h1 : turnI a b k = 0) (h2 : turnI c d k = 0) :
    (turnI a b c - turnI a b d) * (k.x - c.x) = turnI a b c * (d.x - c.x) ∧ (turnI a b c - turnI a b d) * (k.y - c.y) = turnI a b c * (d.y - c.y) := by
  unfold turnI at *
  constructor <;> grind

theorem cut_box {p q k c d : Int} (hp : 0 < p) (hq : q < 0) (h : (p - q) * (k - c) = p * (d - c)) : min c d ≤ k ∧ k ≤ max c d := by
  have h2 : (p - q) * (d - k) = -q * (d - c) := by grind
  rcases Int.le_total c d with e | e
  · have a1 : 0 ≤ p * (d - c) := Int.mul_nonneg (by omega) (by omega)
    have a2 : 0 ≤ -q * (d - c) := Int.mul_nonneg (by omega) (by omega)
    have b1 : 0 ≤ k - c := Int.not_lt.1 fun hn => by have := Int.mul_neg_of_pos_of_neg (a := p - q) (by omega) hn; omega
    have b2 : 0 ≤ d - k := Int.not_lt.1 fun hn => by have := Int.mul_neg_of_pos_of_neg (a := p - q) (by omega) hn; omega
    omega
  · have a1 : p * (d - c) ≤ 0 := Int.mul_nonpos_of_nonneg_of_nonpos (by omega) (by omega)
    have a2 : -q * (d - c) ≤ 0 := Int.mul_nonpos_of_nonneg_of_nonpos (by omega) (by omega)
    have b1 : k - c ≤ 0 := Int.not_lt.1 fun hn => by have := Int.mul_pos (a := p - q) (by omega) hn; omega
    have b2 : d - k ≤ 0 := Int.not_lt.1 fun hn => by have := Int.mul_pos (a := p - q) (by omega) hn; omega
    omega

theorem cut_between {a b k c d : Nd} (hs : sepB a b c d = true) (h1 : turnI a b k = 0) (h2 : turnI c d k = 0) (ho : okB c = true ∧ okB d = true ∧ okB k = true) (hn : c ≠ d ∧ d ≠ k ∧ c ≠ k) : betweenB c d k = true := by
  obtain ⟨e1, e2⟩ := cut_way h1 h2
  rcases sep_opp.1 hs with ⟨p1, p2⟩ | ⟨p1, p2⟩
  · exact between_mk ho hn h2 (cut_box (p := -turnI a b c) (q := -turnI a b d) (by omega) (by omega) (by grind)) (cut_box (p := -turnI a b c) (q := -turnI a b d) (by omega) (by omega) (by grind))
  · exact between_mk ho hn h2 (cut_box p1 p2 e1) (cut_box p1 p2 e2)

theorem turn_mix {a b k : Nd} (h : turnI a b k = 0) (c d : Nd) : turnI c d k * sqI a b = turnI c d a * alI b a k + turnI c d b * alI a b k := by
  unfold turnI sqI alI at *
  grind

theorem between_split {a b k n : Nd} (hk : betweenB a b k = true) (hn : betweenB a b n = true) : n = k ∨ betweenB a k n = true ∨ betweenB k b n = true := by
  by_cases e : n = k
  · exact .inl e
  have hS := sqI_pos (between_parts hk).2.1.1
  obtain ⟨⟨o1, o2, o3⟩, ⟨n1, n2, n3⟩, t1, bx, by_⟩ := between_parts hk
  obtain ⟨⟨_, _, o4⟩, ⟨_, n4, n5⟩, t2, cx, cy⟩ := between_parts hn
  have hw1 : (k.x - n.x) * sqI a b = (b.x - a.x) * (alI a b k - alI a b n) := by unfold turnI sqI alI at *; grind
  have hw2 : (k.y - n.y) * sqI a b = (b.y - a.y) * (alI a b k - alI a b n) := by unfold turnI sqI alI at *; grind
  have key : ∀ {z u D : Int}, z * sqI a b = u * D → (0 ≤ D → (0 ≤ u → 0 ≤ z) ∧ (u ≤ 0 → z ≤ 0)) ∧ (D ≤ 0 → (0 ≤ u → z ≤ 0) ∧ (u ≤ 0 → 0 ≤ z)) := by
    intro z u D h
    refine ⟨fun hD => ⟨fun hu => ?_, fun hu => ?_⟩, fun hD => ⟨fun hu => ?_, fun hu => ?_⟩⟩
    · have := Int.mul_nonneg hu hD
      exact Int.not_lt.1 fun hn => by have := Int.mul_neg_of_neg_of_pos hn hS; omega
    · have := Int.mul_nonpos_of_nonpos_of_nonneg hu hD
      exact Int.not_lt.1 fun hn => by have := Int.mul_pos hn hS; omega
    · have := Int.mul_nonpos_of_nonneg_of_nonpos hu hD
      exact Int.not_lt.1 fun hn => by have := Int.mul_pos hn hS; omega
    · have := Int.mul_nonneg_of_nonpos_of_nonpos hu hD
      exact Int.not_lt.1 fun hn => by have := Int.mul_neg_of_neg_of_pos hn hS; omega
  have k1 := key hw1
  have k2 := key hw2
  have ht1 : turnI a k n = 0 := (side_first hk n).2.2.2 t2
  have ht2 : turnI k b n = 0 := (side_last hk n).2.2.2 t2
  have hnk : k ≠ n := fun h => e h.symm
  rcases Int.le_total 0 (alI a b k - alI a b n) with hD | hD
  · refine .inr (.inl (between_mk ⟨o1, o3, o4⟩ ⟨n3, hnk, n5⟩ ht1 ?_ ?_))
    · have := k1.1 hD; omega
    · have := k2.1 hD; omega
  · refine .inr (.inr (between_mk ⟨o3, o2, o4⟩ ⟨fun h => n2 h.symm, n4, hnk⟩ ht2 ?_ ?_))
    · have := k1.2 hD; omega
    · have := k2.2 hD; omega

/-- What meets neither part, and does not go through the place where they meet, does not meet the whole. -/
theorem meet_join {a b k c d : Nd} (hk : betweenB a b k = true) (hc : okB c = true) (hd : okB d = true) (hcd : c ≠ d) (h1 : meetB a k c d = false) (h2 : meetB k b c d = false) (h3 : betweenB c d k = false) (hkc : k ≠ c) (hkd : k ≠ d) : meetB a b c d = false := by
  rw [meet_prog] at h1 h2 ⊢
  simp only [Bool.or_eq_false_iff] at h1 h2
  obtain ⟨g1, ⟨⟨g2, g3⟩, ⟨g4, g5⟩⟩, g6⟩ := h1
  obtain ⟨f1, ⟨⟨f2, f3⟩, ⟨f4, f5⟩⟩, f6⟩ := h2
  have hoff : ∀ n, n ≠ k → betweenB a k n = false → betweenB k b n = false → betweenB a b n = false := by
    intro n hn p1 p2
    rw [Bool.eq_false_iff]
    intro h
    rcases between_split hk h with e | e | e
    · exact hn e
    · rw [p1] at e; cases e
    · rw [p2] at e; cases e
  have r1 := hoff c (fun e => hkc e.symm) g2 f2
  have r2 := hoff d (fun e => hkd e.symm) g3 f3
  have hok := between_parts hk
  have r3 : (decide (a = c) && decide (b = d) || decide (a = d) && decide (b = c)) = false := by
    rw [Bool.eq_false_iff]
    simp only [ne_eq, Bool.or_eq_true, Bool.and_eq_true, decide_eq_true_eq]
    rintro (⟨rfl, rfl⟩ | ⟨rfl, rfl⟩)
    · rw [hk] at h3; cases h3
    · rw [between_comm, hk] at h3; cases h3
  rw [r1, r2, r3, g4, f5]
  simp only [Bool.false_or, Bool.or_false]
  rw [Bool.eq_false_iff]
  intro hs
  rw [Bool.and_eq_true] at hs
  obtain ⟨s1, s2⟩ := hs
  rw [sep_first hk, s1, Bool.true_and] at g6
  rw [sep_last hk, s1, Bool.true_and] at f6
  have hm := turn_mix hok.2.2.1 c d
  have hp1 := alI_pos hk
  have hp2 : 0 < alI b a k := alI_pos (by rw [between_comm]; exact hk)
  have hS := sqI_pos hok.2.1.1
  have g7 : ¬ ((turnI c d a < 0 ∧ 0 < turnI c d k) ∨ (0 < turnI c d a ∧ turnI c d k < 0)) := fun h => by rw [sep_opp.2 h] at g6; cases g6
  have f7 : ¬ ((turnI c d k < 0 ∧ 0 < turnI c d b) ∨ (0 < turnI c d k ∧ turnI c d b < 0)) := fun h => by rw [sep_opp.2 h] at f6; cases f6
  have h0 : turnI c d k = 0 := by
    rcases sep_opp.1 s2 with ⟨e1, e2⟩ | ⟨e1, e2⟩ <;> omega
  have := cut_between s1 hok.2.2.1 h0 ⟨hc, hd, hok.1.2.2⟩ ⟨hcd, fun e => hkd e.symm, fun e => hkc e.symm⟩
  rw [this] at h3
  cases h3
end Go.Proofs.YtepacoacalhdcaaGreat

namespace Go.Proofs.YtepacoacalhdcaaGreat
open Go.RowKit
set_option linter.unusedVariables false
set_option linter.unusedSimpArgs false

def lowI (k i : Int) : Int := if k < i then i - 1 else i

def lowNd (k : Int) (l : Nd) : Nd := ⟨lowI k l.x, lowI k l.y⟩

/-- A lead that does not end at node k. -/
def offB (k : Int) (l : Nd) : Bool := decide (l.x ≠ k) && decide (l.y ≠ k)

theorem offB_iff (k : Int) (l : Nd) : offB k l = true ↔ l.x ≠ k ∧ l.y ≠ k := by simp [offB]

def dropN (ns : List Nd) (k : Nat) : List Nd := ns.take k ++ ns.drop (k + 1)

/-- What stays of the first n leads. -/
def dropLs (L : List Nd) (k : Int) : Nat → List Nd
  | 0 => []
  | n + 1 => if offB k (atN L n) = true then dropLs L k n ++ [lowNd k (atN L n)] else dropLs L k n

def dropL (L : List Nd) (k : Int) : List Nd := dropLs L k L.length

theorem dropLs_len (L : List Nd) (k : Int) : ∀ n, (dropLs L k n).length ≤ n
  | 0 => Nat.le_refl _
  | n + 1 => by
    have := dropLs_len L k n
    unfold dropLs
    split
    · simp; omega
    · omega

theorem dropLs_is (L : List Nd) (k : Int) : ∀ n, n ≤ L.length → dropLs L k n = ((L.take n).filter (offB k)).map (lowNd k)
  | 0, _ => by simp [dropLs]
  | n + 1, h => by
    have ih := dropLs_is L k n (by omega)
    unfold dropLs
    rw [take_atN (by omega), List.filter_append, List.map_append, ← ih]
    by_cases e : offB k (atN L n) = true
    · rw [if_pos e]; simp [e]
    · rw [if_neg e]; simp [e]

theorem dropL_is (L : List Nd) (k : Int) : dropL L k = (L.filter (offB k)).map (lowNd k) := by
  unfold dropL
  rw [dropLs_is L k _ (Nat.le_refl _), List.take_length]

theorem dropN_len {ns : List Nd} {k : Nat} (hk : k < ns.length) : (dropN ns k).length = ns.length - 1 := by
  unfold dropN
  simp
  omega

theorem dropN_at {ns : List Nd} {k : Nat} (hk : k < ns.length) (i : Nat) : atN (dropN ns k) i = atN ns (if i < k then i else i + 1) := by
  unfold dropN atN
  simp only [List.getD]
  by_cases h : i < k
  · rw [if_pos h, List.getElem?_append_left (by simp; omega), List.getElem?_take, if_pos h]
  · rw [if_neg h, List.getElem?_append_right (by simp; omega), List.getElem?_drop]
    congr 2
    simp
    omega

/-- The place of index i, from the shorter list's view. -/
def upN (k i : Nat) : Nat := if i < k then i else i + 1

theorem upN_ne (k i : Nat) : upN k i ≠ k := by unfold upN; split <;> omega

theorem low_at {ns : List Nd} {k : Nat} (hk : k < ns.length) {i : Int} (h0 : 0 ≤ i) (hn : i ≠ k) : atI (dropN ns k) (lowI k i) = atI ns i := by
  obtain ⟨q, rfl⟩ : ∃ q : Nat, i = q := ⟨i.toNat, by omega⟩
  have hat := dropN_at hk
  unfold lowI
  by_cases h : (k : Int) < (q : Int)
  · rw [if_pos h, show ((q : Int) - 1) = ((q - 1 : Nat) : Int) by omega, atI_nat, atI_nat, hat, if_neg (by omega), show q - 1 + 1 = q by omega]
  · rw [if_neg h, atI_nat, atI_nat, hat, if_pos (by omega)]

theorem low_idx {n k : Nat} {i : Int} (hk : k < n) (h : idxB n i = true) (hn : i ≠ k) : idxB (n - 1) (lowI k i) = true := by
  rw [idxB_iff] at *
  unfold lowI
  split <;> omega

theorem low_lead {ns : List Nd} {k : Nat} (hk : k < ns.length) {l : Nd} (h : leadOkB ns l = true) (ho : offB k l = true) : leadOkB (dropN ns k) (lowNd k l) = true := by
  obtain ⟨o1, o2⟩ := (offB_iff _ _).1 ho
  unfold leadOkB at h ⊢
  simp only [Bool.and_eq_true, decide_eq_true_eq] at h ⊢
  obtain ⟨⟨⟨⟨h1, h2⟩, h3⟩, h4, h5⟩, h6⟩ := h
  have p1 := (idxB_iff _ _).1 h1
  have p2 := (idxB_iff _ _).1 h2
  rw [dropN_len hk]
  show (((idxB (ns.length - 1) (lowI k l.x) = true ∧ idxB (ns.length - 1) (lowI k l.y) = true) ∧ lowI k l.x < lowI k l.y) ∧ okB (atI (dropN ns k) (lowI k l.x)) = true ∧ okB (atI (dropN ns k) (lowI k l.y)) = true) ∧ atI (dropN ns k) (lowI k l.x) ≠ atI (dropN ns k) (lowI k l.y)
  rw [low_at hk p1.1 o1, low_at hk p2.1 o2]
  refine ⟨⟨⟨⟨low_idx hk h1 o1, low_idx hk h2 o2⟩, ?_⟩, h4, h5⟩, h6⟩
  unfold lowI
  split <;> split <;> omega

theorem lead_idx {ns : List Nd} {l : Nd} (h : leadOkB ns l = true) : 0 ≤ l.x ∧ 0 ≤ l.y ∧ l.x < ns.length ∧ l.y < ns.length ∧ l.x < l.y := by
  unfold leadOkB at h
  simp only [Bool.and_eq_true, decide_eq_true_eq, idxB_iff] at h
  omega

theorem low_cross {ns : List Nd} {k : Nat} (hk : k < ns.length) {l m : Nd} (hl : leadOkB ns l = true) (hm : leadOkB ns m = true) (ol : offB k l = true) (om : offB k m = true) : crossB (dropN ns k) (lowNd k l) (lowNd k m) = crossB ns l m := by
  unfold crossB
  rw [hl, hm, low_lead hk hl ol, low_lead hk hm om]
  obtain ⟨o1, o2⟩ := (offB_iff _ _).1 ol
  obtain ⟨o3, o4⟩ := (offB_iff _ _).1 om
  have h1 := lead_idx hl
  have h2 := lead_idx hm
  show (true && true && meetB (atI (dropN ns k) (lowI k l.x)) (atI (dropN ns k) (lowI k l.y)) (atI (dropN ns k) (lowI k m.x)) (atI (dropN ns k) (lowI k m.y))) = _
  rw [low_at hk h1.1 o1, low_at hk h1.2.1 o2, low_at hk h2.1 o3, low_at hk h2.2.1 o4]

theorem low_on {ns : List Nd} {k : Nat} (hk : k < ns.length) {l : Nd} (hl : leadOkB ns l = true) (ol : offB k l = true) (n : Nd) : onLeadB (dropN ns k) (lowNd k l) n = onLeadB ns l n := by
  unfold onLeadB
  rw [hl, low_lead hk hl ol]
  obtain ⟨o1, o2⟩ := (offB_iff _ _).1 ol
  have h1 := lead_idx hl
  show (true && (decide (n = atI (dropN ns k) (lowI k l.x)) || decide (n = atI (dropN ns k) (lowI k l.y)) || betweenB (atI (dropN ns k) (lowI k l.x)) (atI (dropN ns k) (lowI k l.y)) n)) = _
  rw [low_at hk h1.1 o1, low_at hk h1.2.1 o2]

theorem leads_of {ns L : List Nd} (h1 : ∀ l ∈ L, leadOkB ns l = true ∧ ∀ i : Nat, i < ns.length → (i : Int) ≠ l.x → (i : Int) ≠ l.y → onLeadB ns l (atN ns i) = false) (h2 : L.Pairwise fun l m => crossB ns l m = false) : LeadsOk ns L L.length := fun k hk => by
  have hm := h1 _ (atN_mem hk)
  refine ⟨hm.1, fun i hi => ?_, hm.2⟩
  have := List.pairwise_iff_getElem.1 h2 i k (by omega) hk hi
  rwa [atN_get (by omega), atN_get hk] at this

theorem leads_all {ns L : List Nd} (h : LeadsOk ns L L.length) : (∀ l ∈ L, leadOkB ns l = true ∧ ∀ i : Nat, i < ns.length → (i : Int) ≠ l.x → (i : Int) ≠ l.y → onLeadB ns l (atN ns i) = false) ∧ L.Pairwise fun l m => crossB ns l m = false := by
  refine ⟨fun l hl => ?_, List.pairwise_iff_getElem.2 fun i j hi hj hij => ?_⟩
  · obtain ⟨k, hk, rfl⟩ := List.getElem_of_mem hl
    rw [atN_get hk]
    exact ⟨(h k hk).1, (h k hk).2.2⟩
  · rw [atN_get hi, atN_get hj]
    exact (h j hj).2.1 i hij

/-- Leads of which none ends at node k, without that node. -/
theorem low_win {ns X : List Nd} {k : Nat} (hk : k < ns.length) (hn : NodesOk ns ns.length) (h2 : 2 ≤ ns.length) (h12 : ns.length ≤ 12) (h20 : X.length ≤ 20)
    (hX : ∀ l ∈ X, (leadOkB ns l = true ∧ offB k l = true) ∧ ∀ i : Nat, i < ns.length → i ≠ k → (i : Int) ≠ l.x → (i : Int) ≠ l.y → onLeadB ns l (atN ns i) = false) (hp : X.Pairwise fun l m => crossB ns l m = false) : WinOk (dropN ns k) (X.map (lowNd k)) := by
  have hlen := dropN_len hk
  have hat := dropN_at hk
  refine ⟨⟨⟨by omega, by omega⟩, by rw [List.length_map]; exact h20⟩, fun j hj => ?_, leads_of (fun l' hl' => ?_) ?_⟩
  · rw [hlen] at hj
    obtain ⟨h1, h3⟩ := hn (if j < k then j else j + 1) (by split <;> omega)
    rw [hat]
    refine ⟨h1, fun i hi => ?_⟩
    rw [hat]
    exact h3 _ (by split <;> split <;> omega)
  · obtain ⟨l, hl, rfl⟩ := List.mem_map.1 hl'
    obtain ⟨⟨h1, ho⟩, h3⟩ := hX l hl
    have hix := lead_idx h1
    obtain ⟨o1, o2⟩ := (offB_iff _ _).1 ho
    refine ⟨low_lead hk h1 ho, fun i hi hx hy => ?_⟩
    rw [low_on hk h1 ho, hat]
    rw [hlen] at hi
    have hx' : (i : Int) ≠ lowI k l.x := hx
    have hy' : (i : Int) ≠ lowI k l.y := hy
    unfold lowI at hx' hy'
    refine h3 _ (by split <;> omega) (by split <;> omega) ?_ ?_
    · split at hx' <;> split <;> omega
    · split at hy' <;> split <;> omega
  · rw [List.pairwise_map]
    refine hp.imp_of_mem fun {l m} hl hm h => ?_
    rw [low_cross hk (hX l hl).1.1 (hX m hm).1.1 (hX l hl).1.2 (hX m hm).1.2]
    exact h

theorem drop_win {ns ls : List Nd} {k : Nat} (h : winB ns ls = true) (hk : k < ns.length) (h2 : 2 ≤ ns.length) : winB (dropN ns k) (dropL ls k) = true := by
  obtain ⟨⟨⟨_, h12⟩, h20⟩, hn, hl⟩ := (winB_iff _ _).1 h
  obtain ⟨p1, p2⟩ := leads_all hl
  rw [dropL_is]
  refine winB_yes (low_win hk hn h2 h12 (Nat.le_trans (List.length_filter_le _ _) h20) (fun l hl => ?_) (p2.sublist List.filter_sublist))
  obtain ⟨m1, m2⟩ := List.mem_filter.1 hl
  exact ⟨⟨(p1 l m1).1, m2⟩, fun i hi _ => (p1 l m1).2 i hi⟩

theorem drop_no {ns ls : List Nd} {k : Nat} (hk : k < ns.length) (h2 : ¬ 2 ≤ ns.length) : winB (dropN ns k) (dropL ls k) = false :=
  winB_size (by rw [dropN_len hk]; omega)

/-! ### two leads made one -/

/-- Leads i and j are the only ones at node k; they go to a and b; k lies between. -/
structure StrAt (ns ls : List Nd) (k i j a b : Nat) : Prop where
  win : winB ns ls = true
  hk : k < ns.length
  hi : i < ls.length
  hj : j < ls.length
  hij : i ≠ j
  ha : a < ns.length
  hb : b < ns.length
  li : atN ls i = ⟨k, a⟩ ∨ atN ls i = ⟨a, k⟩
  lj : atN ls j = ⟨k, b⟩ ∨ atN ls j = ⟨b, k⟩
  off : ∀ p, p < ls.length → p ≠ i → p ≠ j → offB k (atN ls p) = true
  mid : betweenB (atN ns a) (atN ns b) (atN ns k) = true

theorem win_apart {ns ls : List Nd} (h : winB ns ls = true) {i j : Nat} (hi : i < ns.length) (hj : j < ns.length) (he : atN ns i = atN ns j) : i = j := by
  obtain ⟨_, hn, _⟩ := (winB_iff _ _).1 h
  rcases Nat.lt_trichotomy i j with h1 | h1 | h1
  · exact absurd he ((hn j hj).2 i h1)
  · exact h1
  · exact absurd he.symm ((hn i hi).2 j h1)

/-- The lead between two ends. -/
def mLd (a b : Nat) : Nd := ⟨min (a : Int) b, max (a : Int) b⟩

theorem mLd_at {ns : List Nd} {a b : Nat} : (atI ns (mLd a b).x = atN ns a ∧ atI ns (mLd a b).y = atN ns b ∧ (mLd a b).x = a ∧ (mLd a b).y = b) ∨ (atI ns (mLd a b).x = atN ns b ∧ atI ns (mLd a b).y = atN ns a ∧ (mLd a b).x = b ∧ (mLd a b).y = a) := by
  rcases Nat.le_total a b with h | h
  · have e1 : min (a : Int) b = a := by omega
    have e2 : max (a : Int) b = b := by omega
    exact .inl ⟨by show atI ns (min (a : Int) b) = _; rw [e1]; rfl, by show atI ns (max (a : Int) b) = _; rw [e2]; rfl, e1, e2⟩
  · have e1 : min (a : Int) b = b := by omega
    have e2 : max (a : Int) b = a := by omega
    exact .inr ⟨by show atI ns (min (a : Int) b) = _; rw [e1]; rfl, by show atI ns (max (a : Int) b) = _; rw [e2]; rfl, e1, e2⟩

theorem meet_swap (a b u v : Nd) : meetB b a u v = meetB a b u v := by
  have e1 : sepB b a u v = sepB a b u v := by
    unfold sepB
    rw [turn_neg a b u, turn_neg a b v, Int.neg_mul_neg]
  have e2 : sepB u v b a = sepB u v a b := by
    unfold sepB
    rw [Int.mul_comm]
  rw [meet_prog, meet_prog, e1, e2, between_comm b a u, between_comm b a v]
  cases decide (a = u) <;> cases decide (b = v) <;> cases decide (a = v) <;> cases decide (b = u) <;> cases betweenB a b u <;> cases betweenB a b v <;> cases betweenB u v a <;> cases betweenB u v b <;> cases sepB a b u v <;> cases sepB u v a b <;> rfl

section

variable {ns ls : List Nd} {k i j a b : Nat}

theorem StrAt.ends (h : StrAt ns ls k i j a b) : a ≠ b ∧ a ≠ k ∧ b ≠ k := by
  obtain ⟨_, ⟨n1, n2, n3⟩, _⟩ := between_parts h.mid
  refine ⟨?_, ?_, ?_⟩ <;> rintro rfl
  · exact n1 rfl
  · exact n3 rfl
  · exact n2 rfl

theorem StrAt.mOk (h : StrAt ns ls k i j a b) : leadOkB ns (mLd a b) = true ∧ offB k (mLd a b) = true := by
  obtain ⟨⟨o1, o2, o3⟩, ⟨n1, n2, n3⟩, _⟩ := between_parts h.mid
  obtain ⟨e1, e2, e3⟩ := h.ends
  have ha := h.ha
  have hb := h.hb
  constructor
  · unfold leadOkB
    simp only [Bool.and_eq_true, decide_eq_true_eq, idxB_iff]
    have hlt : (mLd a b).x < (mLd a b).y := by unfold mLd; simp only; omega
    rcases mLd_at (ns := ns) (a := a) (b := b) with ⟨p1, p2, p3, p4⟩ | ⟨p1, p2, p3, p4⟩
    · rw [p1, p2]
      exact ⟨⟨⟨⟨by omega, by omega⟩, hlt⟩, o1, o2⟩, n1⟩
    · rw [p1, p2]
      exact ⟨⟨⟨⟨by omega, by omega⟩, hlt⟩, o2, o1⟩, fun e => n1 e.symm⟩
  · rw [offB_iff]
    rcases mLd_at (ns := ns) (a := a) (b := b) with ⟨p1, p2, p3, p4⟩ | ⟨p1, p2, p3, p4⟩ <;> omega

theorem meet_of {l m : Nd} (hl : leadOkB ns l = true) (hm : leadOkB ns m = true) : crossB ns l m = meetB (atI ns l.x) (atI ns l.y) (atI ns m.x) (atI ns m.y) := by
  unfold crossB
  rw [hl, hm]
  rfl

theorem meet_lead {l : Nd} {p q : Nat} (h : l = ⟨p, q⟩ ∨ l = ⟨q, p⟩) (c d : Nd) : meetB (atI ns l.x) (atI ns l.y) c d = meetB (atN ns p) (atN ns q) c d := by
  rcases h with rfl | rfl
  · rfl
  · exact meet_swap _ _ _ _

/-- The long lead crosses none of the others. -/
theorem StrAt.mCross (h : StrAt ns ls k i j a b) {p : Nat} (hp : p < ls.length) (h1 : p ≠ i) (h2 : p ≠ j) : crossB ns (mLd a b) (atN ls p) = false := by
  obtain ⟨_, hn, hl⟩ := (winB_iff _ _).1 h.win
  have hoff := h.off p hp h1 h2
  obtain ⟨o1, o2⟩ := (offB_iff _ _).1 hoff
  have hpk := (hl p hp).1
  have hcr : ∀ q, q < ls.length → q ≠ p → crossB ns (atN ls q) (atN ls p) = false := by
    intro q hq hne
    rcases Nat.lt_or_ge q p with e | e
    · exact (hl p hp).2.1 q e
    · rw [cross_comm]
      exact (hl q hq).2.1 p (by omega)
  have c1 := hcr i h.hi (fun e => h1 e.symm)
  have c2 := hcr j h.hj (fun e => h2 e.symm)
  rw [meet_of (hl i h.hi).1 hpk, meet_lead (p := k) (q := a) h.li, meet_swap] at c1
  rw [meet_of (hl j h.hj).1 hpk, meet_lead (p := k) (q := b) h.lj] at c2
  have hon := (hl p hp).2.2 k h.hk (fun e => o1 e.symm) (fun e => o2 e.symm)
  unfold onLeadB at hon
  rw [hpk, Bool.true_and] at hon
  simp only [Bool.or_eq_false_iff, decide_eq_false_iff_not] at hon
  obtain ⟨⟨q1, q2⟩, q3⟩ := hon
  unfold leadOkB at hpk
  have hpk' := hpk
  simp only [Bool.and_eq_true, decide_eq_true_eq] at hpk'
  have hm := meet_join h.mid hpk'.1.2.1 hpk'.1.2.2 hpk'.2 c1 c2 q3 q1 q2
  rw [meet_of h.mOk.1 hpk]
  rcases mLd_at (ns := ns) (a := a) (b := b) with ⟨p1, p2, _⟩ | ⟨p1, p2, _⟩
  · rw [p1, p2]; exact hm
  · rw [p1, p2, meet_swap]; exact hm

/-- No other node lies on the long lead. -/
theorem StrAt.mOn (h : StrAt ns ls k i j a b) {n : Nat} (hn : n < ns.length) (h0 : n ≠ k) (h1 : (n : Int) ≠ (mLd a b).x) (h2 : (n : Int) ≠ (mLd a b).y) : onLeadB ns (mLd a b) (atN ns n) = false := by
  obtain ⟨_, hns, hl⟩ := (winB_iff _ _).1 h.win
  have hna : n ≠ a ∧ n ≠ b := by rcases mLd_at (ns := ns) (a := a) (b := b) with ⟨_, _, p3, p4⟩ | ⟨_, _, p3, p4⟩ <;> omega
  have e1 : ∀ {q}, q < ns.length → n ≠ q → atN ns n ≠ atN ns q := fun hq hne he => hne (win_apart h.win hn hq he)
  have hno : ∀ {p q r : Nat}, p < ls.length → (atN ls p = ⟨q, r⟩ ∨ atN ls p = ⟨r, q⟩) → n ≠ q → n ≠ r → betweenB (atN ns q) (atN ns r) (atN ns n) = false := by
    intro p q r hp hpq hq hr
    have h3 := (hl p hp).2.2 n hn (by rcases hpq with e | e <;> rw [e] <;> simp only <;> omega) (by rcases hpq with e | e <;> rw [e] <;> simp only <;> omega)
    unfold onLeadB at h3
    rw [(hl p hp).1, Bool.true_and] at h3
    simp only [Bool.or_eq_false_iff] at h3
    rcases hpq with e | e <;> rw [e] at h3
    · exact h3.2
    · rw [between_comm]; exact h3.2
  have b1 := hno h.hi h.li h0 hna.1
  rw [between_comm] at b1
  have b2 := hno h.hj h.lj h0 hna.2
  have hb : betweenB (atN ns a) (atN ns b) (atN ns n) = false := by
    rw [Bool.eq_false_iff]
    intro hbt
    rcases between_split h.mid hbt with e | e | e
    · exact e1 h.hk h0 e
    · rw [b1] at e; cases e
    · rw [b2] at e; cases e
  unfold onLeadB
  rcases mLd_at (ns := ns) (a := a) (b := b) with ⟨p1, p2, _⟩ | ⟨p1, p2, _⟩
  · rw [p1, p2, hb, decide_eq_false (e1 h.ha hna.1), decide_eq_false (e1 h.hb hna.2)]
    simp
  · rw [p1, p2, between_comm, hb, decide_eq_false (e1 h.ha hna.1), decide_eq_false (e1 h.hb hna.2)]
    simp

theorem setN_at {L : List Nd} {i p : Nat} (hi : i < L.length) (m : Nd) : atN (L.set i m) p = if p = i then m else atN L p := by
  unfold atN
  simp only [List.getD, List.getElem?_set]
  by_cases e : i = p
  · subst e; simp [hi]
  · rw [if_neg e, if_neg (fun h => e h.symm)]

/-- Which leads stay: all but the second one. -/
theorem StrAt.stay (h : StrAt ns ls k i j a b) {p : Nat} (hp : p < ls.length) : offB k (atN (ls.set i (mLd a b)) p) = decide (p ≠ j) := by
  rw [setN_at h.hi]
  by_cases e : p = i
  · rw [if_pos e, h.mOk.2]
    have := h.hij
    simp; omega
  · rw [if_neg e]
    by_cases e2 : p = j
    · subst e2
      rw [decide_eq_false (by simp), Bool.eq_false_iff]
      intro ho
      obtain ⟨o1, o2⟩ := (offB_iff _ _).1 ho
      rcases h.lj with e3 | e3 <;> rw [e3] at o1 o2
      · exact o1 rfl
      · exact o2 rfl
    · rw [h.off p hp e e2, decide_eq_true e2]

/-- The joined window is a plane drawing. -/
theorem StrAt.joined (h : StrAt ns ls k i j a b) : winB (dropN ns k) (dropL (ls.set i (mLd a b)) k) = true := by
  obtain ⟨⟨⟨_, h12⟩, h20⟩, hn, hl⟩ := (winB_iff _ _).1 h.win
  obtain ⟨e1, e2, e3⟩ := h.ends
  have ha := h.ha
  have hb := h.hb
  have hk := h.hk
  rw [dropL_is]
  refine winB_yes (low_win h.hk hn (by omega) h12 (by have := List.length_filter_le (offB k) (ls.set i (mLd a b)); rw [List.length_set] at this; omega) (fun l hm => ?_) ?_)
  · obtain ⟨m1, m2⟩ := List.mem_filter.1 hm
    obtain ⟨p, hp, rfl⟩ := List.getElem_of_mem m1
    rw [atN_get hp, setN_at h.hi] at m2 ⊢
    rw [List.length_set] at hp
    by_cases e : p = i
    · rw [if_pos e] at m2 ⊢
      exact ⟨h.mOk, fun n hn h0 h1 h2 => h.mOn hn h0 h1 h2⟩
    · rw [if_neg e] at m2 ⊢
      exact ⟨⟨(hl p hp).1, m2⟩, fun n hn _ h1 h2 => (hl p hp).2.2 n hn h1 h2⟩
  · have hpw : (ls.set i (mLd a b)).Pairwise fun l m => offB k l = true → offB k m = true → crossB ns l m = false := by
      refine List.pairwise_iff_getElem.2 fun p q hp hq hpq => ?_
      rw [List.length_set] at hp hq
      rw [atN_get (by rw [List.length_set]; exact hp), atN_get (by rw [List.length_set]; exact hq)]
      intro o1 o2
      rw [h.stay hp] at o1
      rw [h.stay hq] at o2
      have o1 := of_decide_eq_true o1
      have o2 := of_decide_eq_true o2
      rw [setN_at h.hi, setN_at h.hi]
      by_cases e1 : p = i
      · rw [if_pos e1, if_neg (by omega)]
        exact h.mCross hq (by omega) o2
      · rw [if_neg e1]
        by_cases e2 : q = i
        · rw [if_pos e2, cross_comm]
          exact h.mCross hp e1 o1
        · rw [if_neg e2]
          exact (hl q hq).2.1 p hpq
    refine (hpw.sublist List.filter_sublist).imp_of_mem fun {l m} h1 h2 h3 => h3 (List.mem_filter.1 h1).2 (List.mem_filter.1 h2).2

end
end Go.Proofs.YtepacoacalhdcaaGreat
