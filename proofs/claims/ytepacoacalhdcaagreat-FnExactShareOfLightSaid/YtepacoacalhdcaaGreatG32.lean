/-
  Several texts in one: a claim has at most 60 files.
-/
import Derived.Test.YtepacoacalhdcaaGreatG31
import Derived.Test.YtepacoacalhdcaaGreatG12

namespace Go.Proofs.YtepacoacalhdcaaGreat
open Go.RowKit
set_option linter.unusedVariables false
set_option linter.unusedSimpArgs false

/-- How high a place is, where of places of the same height the right one counts as higher. -/
def zN (n : Nd) : Int := 21 * n.y + n.x

theorem zN_inj {a b : Nd} (ha : okB a = true) (hb : okB b = true) (h : zN a = zN b) : a = b := by
  rw [okB_iff] at ha hb
  unfold zN at h
  obtain ⟨p, q⟩ := a
  obtain ⟨r, s⟩ := b
  simp only at *
  have e1 : q = s := by omega
  have e2 : p = r := by omega
  rw [e1, e2]

def fN (ns ls : List Nd) (d : Nat) : Nd := atI ns (dF ls d)

def tN (ns ls : List Nd) (d : Nat) : Nd := atI ns (dT ls d)

def dzN (ns ls : List Nd) (d : Nat) : Int := zN (tN ns ls d) - zN (fN ns ls d)

def upB (ns ls : List Nd) (d : Nat) : Bool := decide (0 < dzN ns ls d)

theorem upB_iff {ns ls : List Nd} {d : Nat} : upB ns ls d = true ↔ zN (fN ns ls d) < zN (tN ns ls d) := by
  unfold upB dzN
  rw [decide_eq_true_eq]
  omega

theorem fN_tw (ns ls : List Nd) (d : Nat) : fN ns ls (tw d) = tN ns ls d := by unfold fN tN; rw [dF_tw]

theorem tN_tw (ns ls : List Nd) (d : Nat) : tN ns ls (tw d) = fN ns ls d := by unfold fN tN; rw [dT_tw]

theorem dz_tw (ns ls : List Nd) (d : Nat) : dzN ns ls (tw d) = -dzN ns ls d := by unfold dzN; rw [fN_tw, tN_tw]; omega

def mulL (ns ls : List Nd) : Nat → Int
  | 0 => 1
  | n + 1 => mulL ns ls n * ((dzN ns ls (2 * n)).natAbs : Int)

section

variable {ns ls : List Nd}

theorem dart_ok (hw : winB ns ls = true) {d : Nat} (hd : d < 2 * ls.length) : okB (fN ns ls d) = true ∧ okB (tN ns ls d) = true ∧ fN ns ls d ≠ tN ns ls d := by
  have h := (((winB_iff ns ls).1 hw).2.2 (d / 2) (by omega)).1
  unfold leadOkB at h
  simp only [Bool.and_eq_true, decide_eq_true_eq] at h
  unfold fN tN dF dT
  by_cases e : d % 2 = 1
  · rw [if_pos e, if_pos e]
    exact ⟨h.1.2.2, h.1.2.1, fun e => h.2 e.symm⟩
  · rw [if_neg e, if_neg e]
    exact ⟨h.1.2.1, h.1.2.2, h.2⟩

theorem dz_ne (hw : winB ns ls = true) {d : Nat} (hd : d < 2 * ls.length) : dzN ns ls d ≠ 0 := by
  obtain ⟨h1, h2, h3⟩ := dart_ok hw hd
  unfold dzN
  intro e
  exact h3 (zN_inj h1 h2 (by omega))

theorem mulL_pos (hw : winB ns ls = true) : ∀ n, n ≤ ls.length → 0 < mulL ns ls n
  | 0, _ => by unfold mulL; omega
  | n + 1, h => by
    have h1 := mulL_pos hw n (by omega)
    have h2 := dz_ne hw (d := 2 * n) (by omega)
    unfold mulL
    exact Int.mul_pos h1 (by omega)

theorem mulL_dvd {k : Nat} : ∀ n, k < n → ((dzN ns ls (2 * k)).natAbs : Int) ∣ mulL ns ls n
  | 0, h => by omega
  | n + 1, h => by
    unfold mulL
    by_cases e : k = n
    · subst e; exact Int.dvd_mul_left _ _
    · exact Int.dvd_trans (mulL_dvd n (by omega)) (Int.dvd_mul_right _ _)

end

/-- A common multiple of all heights of leads. -/
def mM (ns ls : List Nd) : Int := mulL ns ls ls.length

def mD (ns ls : List Nd) (d : Nat) : Int := mM ns ls / dzN ns ls d

/-- Where the line at height t meets the (endless) lead of dart d, mM times. -/
def pD (ns ls : List Nd) (d : Nat) (t : Int) : Int := mD ns ls d * ((fN ns ls d).x * (zN (tN ns ls d) - t) + (tN ns ls d).x * (t - zN (fN ns ls d)))

def qD (ns ls : List Nd) (d : Nat) (t : Int) : Int := pD ns ls d t + pD ns ls d (t + 1)

def sD (ns ls : List Nd) (d : Nat) : Int := mD ns ls d * ((tN ns ls d).x - (fN ns ls d).x)

theorem pD_lin (ns ls : List Nd) (d : Nat) (s t : Int) : pD ns ls d t = pD ns ls d s + (t - s) * sD ns ls d := by
  unfold pD sD
  generalize mD ns ls d = m
  generalize (fN ns ls d).x = p
  generalize (tN ns ls d).x = q
  generalize zN (tN ns ls d) = a
  generalize zN (fN ns ls d) = b
  grind

section

variable {ns ls : List Nd}

theorem mD_is (hw : winB ns ls = true) {d : Nat} (hd : d < 2 * ls.length) (hu : upB ns ls d = true) : mD ns ls d * dzN ns ls d = mM ns ls ∧ 0 < mD ns ls d := by
  have hp := mulL_pos hw ls.length (Nat.le_refl _)
  have hdv : dzN ns ls d ∣ mM ns ls := by
    have h1 := mulL_dvd (ns := ns) (ls := ls) (k := d / 2) ls.length (by omega)
    unfold upB at hu
    rw [decide_eq_true_eq] at hu
    have h2 : ((dzN ns ls (2 * (d / 2))).natAbs : Int) = dzN ns ls d := by
      by_cases e : d % 2 = 1
      · have h3 := dz_tw ns ls d
        rw [show tw d = 2 * (d / 2) by unfold tw; rw [if_pos e]; omega] at h3
        rw [h3]; omega
      · rw [show 2 * (d / 2) = d by omega]; omega
    rw [h2] at h1
    exact h1
  have he : mD ns ls d * dzN ns ls d = mM ns ls := Int.ediv_mul_cancel hdv
  refine ⟨he, ?_⟩
  unfold upB at hu
  rw [decide_eq_true_eq] at hu
  refine Int.not_le.1 fun hn => ?_
  have := Int.mul_nonpos_of_nonpos_of_nonneg hn (Int.le_of_lt hu)
  unfold mM at he
  omega

/-- On which side of a lead a place lies. -/
theorem pD_turn (hw : winB ns ls = true) {d : Nat} (hd : d < 2 * ls.length) (hu : upB ns ls d = true) (n : Nd) : pD ns ls d (zN n) - mM ns ls * n.x = mD ns ls d * (21 * turnI (fN ns ls d) (tN ns ls d) n) := by
  rw [← (mD_is hw hd hu).1]
  unfold pD dzN turnI zN
  generalize mD ns ls d = m
  grind

theorem pD_side (hw : winB ns ls = true) {d : Nat} (hd : d < 2 * ls.length) (hu : upB ns ls d = true) (n : Nd) : (mM ns ls * n.x < pD ns ls d (zN n) ↔ 0 < turnI (fN ns ls d) (tN ns ls d) n) ∧ (pD ns ls d (zN n) < mM ns ls * n.x ↔ turnI (fN ns ls d) (tN ns ls d) n < 0) := by
  have h := pD_turn hw hd hu n
  have hm := (mD_is hw hd hu).2
  generalize turnI (fN ns ls d) (tN ns ls d) n = x at *
  generalize mD ns ls d = m at *
  rcases Int.lt_trichotomy x 0 with e | e | e
  · have := Int.mul_neg_of_pos_of_neg hm (show 21 * x < 0 by omega)
    omega
  · subst e; simp at h; omega
  · have := Int.mul_pos hm (show 0 < 21 * x by omega)
    omega

theorem pD_from (hw : winB ns ls = true) {d : Nat} (hd : d < 2 * ls.length) (hu : upB ns ls d = true) : pD ns ls d (zN (fN ns ls d)) = mM ns ls * (fN ns ls d).x := by
  have h := pD_turn hw hd hu (fN ns ls d)
  rw [turn_aa] at h
  simp at h
  omega

theorem pD_to (hw : winB ns ls = true) {d : Nat} (hd : d < 2 * ls.length) (hu : upB ns ls d = true) : pD ns ls d (zN (tN ns ls d)) = mM ns ls * (tN ns ls d).x := by
  have h := pD_turn hw hd hu (tN ns ls d)
  rw [turn_ab] at h
  simp at h
  omega

theorem meet_no (hw : winB ns ls = true) {d e : Nat} (hd : d < 2 * ls.length) (he : e < 2 * ls.length) (hne : d / 2 ≠ e / 2) : meetB (fN ns ls d) (tN ns ls d) (fN ns ls e) (tN ns ls e) = false := by
  obtain ⟨_, hn, hl⟩ := (winB_iff _ _).1 hw
  have key : ∀ p q, p < ls.length → q < ls.length → p ≠ q → meetB (atI ns (atN ls p).x) (atI ns (atN ls p).y) (atI ns (atN ls q).x) (atI ns (atN ls q).y) = false := by
    intro p q hp hq h
    rw [← meet_of (hl p hp).1 (hl q hq).1]
    rcases Nat.lt_or_gt_of_ne h with h1 | h1
    · exact (hl q hq).2.1 p h1
    · rw [cross_comm]; exact (hl p hp).2.1 q h1
  have hk := key (d / 2) (e / 2) (by omega) (by omega) hne
  unfold fN tN dF dT
  by_cases h1 : d % 2 = 1 <;> by_cases h2 : e % 2 = 1
  · rw [if_pos h1, if_pos h1, if_pos h2, if_pos h2, meet_swap, meet_comm, meet_swap, meet_comm]; exact hk
  · rw [if_pos h1, if_pos h1, if_neg h2, if_neg h2, meet_swap]; exact hk
  · rw [if_neg h1, if_neg h1, if_pos h2, if_pos h2, meet_comm, meet_swap, meet_comm]; exact hk
  · rw [if_neg h1, if_neg h1, if_neg h2, if_neg h2]; exact hk

/-- Two leads do not change their order. -/
theorem nc_core (hw : winB ns ls = true) {d e : Nat} (hd : d < 2 * ls.length) (he : e < 2 * ls.length) (ud : upB ns ls d = true) (ue : upB ns ls e = true) (hne : d ≠ e) {s t : Int} (hst : s < t)
    (hs1 : zN (fN ns ls d) ≤ s) (hs2 : zN (fN ns ls e) ≤ s) (ht1 : t ≤ zN (tN ns ls d)) (ht2 : t ≤ zN (tN ns ls e)) (h1 : pD ns ls d s < pD ns ls e s) (h2 : pD ns ls e t < pD ns ls d t) : False := by
  have hh : d / 2 ≠ e / 2 := by
    intro e1
    have h3 : e = tw d := by unfold tw; split <;> omega
    rw [h3] at ue
    have h4 := dz_tw ns ls d
    unfold upB at ud ue
    rw [decide_eq_true_eq] at ud ue
    omega
  have hm := meet_no hw hd he hh
  have L1 := pD_lin ns ls d s
  have L2 := pD_lin ns ls e s
  have hsg : sD ns ls e < sD ns ls d := by
    refine Int.not_le.1 fun hn => ?_
    have a1 := L1 t
    have a2 := L2 t
    have := Int.mul_le_mul_of_nonneg_left hn (show 0 ≤ t - s by omega)
    omega
  have low : ∀ r, r ≤ s → pD ns ls d r < pD ns ls e r := by
    intro r hr
    have a1 := L1 r
    have a2 := L2 r
    have := Int.mul_le_mul_of_nonpos_left (a := r - s) (by omega) (Int.le_of_lt hsg)
    omega
  have high : ∀ r, t ≤ r → pD ns ls e r < pD ns ls d r := by
    intro r hr
    have a1 := pD_lin ns ls d t r
    have a2 := pD_lin ns ls e t r
    have := Int.mul_le_mul_of_nonneg_left (Int.le_of_lt hsg) (show 0 ≤ r - t by omega)
    omega
  have b1 := low _ hs1
  have b2 := low _ hs2
  have b3 := high _ ht1
  have b4 := high _ ht2
  rw [pD_from hw hd ud] at b1
  rw [pD_from hw he ue] at b2
  rw [pD_to hw hd ud] at b3
  rw [pD_to hw he ue] at b4
  have c1 := (pD_side hw he ue (fN ns ls d)).1.1 b1
  have c2 := (pD_side hw hd ud (fN ns ls e)).2.1 b2
  have c3 := (pD_side hw he ue (tN ns ls d)).2.1 b3
  have c4 := (pD_side hw hd ud (tN ns ls e)).1.1 b4
  have s1 : sepB (fN ns ls d) (tN ns ls d) (fN ns ls e) (tN ns ls e) = true := sep_opp.2 (.inl ⟨c2, c4⟩)
  have s2 : sepB (fN ns ls e) (tN ns ls e) (fN ns ls d) (tN ns ls d) = true := sep_opp.2 (.inr ⟨c1, c3⟩)
  rw [meet_prog, s1, s2] at hm
  simp at hm

theorem on_line {a b n : Nd} (ha : okB a = true) (hb : okB b = true) (hn : okB n = true) (ht : turnI a b n = 0) (h1 : zN a < zN n) (h2 : zN n < zN b) : betweenB a b n = true := by
  have e1 : (n.x - a.x) * (zN b - zN a) = (b.x - a.x) * (zN n - zN a) := by unfold turnI zN at *; grind
  have e2 : (n.y - a.y) * (zN b - zN a) = (b.y - a.y) * (zN n - zN a) := by unfold turnI zN at *; grind
  refine between_mk ⟨ha, hb, hn⟩ ⟨?_, ?_, ?_⟩ ht ?_ ?_
  · rintro rfl; omega
  · rintro rfl; omega
  · rintro rfl; omega
  · exact cut_box (p := zN n - zN a) (q := -(zN b - zN n)) (by omega) (by omega) (by grind)
  · exact cut_box (p := zN n - zN a) (q := -(zN b - zN n)) (by omega) (by omega) (by grind)

/-- Two leads are never at the same place of a line. -/
theorem q_ne (hw : winB ns ls = true) {d e : Nat} (hd : d < 2 * ls.length) (he : e < 2 * ls.length) (ud : upB ns ls d = true) (ue : upB ns ls e = true) (hne : d ≠ e) {t : Int}
    (hs1 : zN (fN ns ls d) ≤ t) (hs2 : zN (fN ns ls e) ≤ t) (ht1 : t < zN (tN ns ls d)) (ht2 : t < zN (tN ns ls e)) : qD ns ls d t ≠ qD ns ls e t := by
  intro hq
  unfold qD at hq
  rcases Int.lt_trichotomy (pD ns ls d t) (pD ns ls e t) with h | h | h
  · exact nc_core hw hd he ud ue hne (s := t) (t := t + 1) (by omega) hs1 hs2 (by omega) (by omega) h (by omega)
  · have hh : d / 2 ≠ e / 2 := by
      intro e1
      have h3 : e = tw d := by unfold tw; split <;> omega
      rw [h3] at ue
      have h4 := dz_tw ns ls d
      unfold upB at ud ue
      rw [decide_eq_true_eq] at ud ue
      omega
    have hs : sD ns ls d = sD ns ls e := by
      have a1 := pD_lin ns ls d t (t + 1)
      have a2 := pD_lin ns ls e t (t + 1)
      rw [show t + 1 - t = 1 by omega, Int.one_mul] at a1 a2
      omega
    have hall : ∀ r, pD ns ls d r = pD ns ls e r := by
      intro r
      rw [pD_lin ns ls d t r, pD_lin ns ls e t r, h, hs]
    obtain ⟨o1, o2, o3⟩ := dart_ok hw hd
    obtain ⟨o4, o5, o6⟩ := dart_ok hw he
    have hm := meet_no hw hd he hh
    have z1 : ∀ {n}, pD ns ls e (zN n) = mM ns ls * n.x → turnI (fN ns ls e) (tN ns ls e) n = 0 := by
      intro n h
      have := pD_side hw he ue n
      omega
    have z2 : ∀ {n}, pD ns ls d (zN n) = mM ns ls * n.x → turnI (fN ns ls d) (tN ns ls d) n = 0 := by
      intro n h
      have := pD_side hw hd ud n
      omega
    have t1 := z1 ((hall _).symm.trans (pD_from hw hd ud))
    have t2 := z1 ((hall _).symm.trans (pD_to hw hd ud))
    have t3 := z2 ((hall _).trans (pD_from hw he ue))
    have t4 := z2 ((hall _).trans (pD_to hw he ue))
    rw [meet_prog] at hm
    simp only [Bool.or_eq_false_iff] at hm
    obtain ⟨g1, ⟨⟨g2, g3⟩, ⟨g4, g5⟩⟩, g6⟩ := hm
    have n1 : fN ns ls d = fN ns ls e := by
      rcases Int.lt_trichotomy (zN (fN ns ls d)) (zN (fN ns ls e)) with h1 | h1 | h1
      · have := on_line o1 o2 o4 t3 h1 (by omega)
        rw [this] at g2; cases g2
      · exact zN_inj o1 o4 h1
      · have := on_line o4 o5 o1 t1 h1 (by omega)
        rw [this] at g4; cases g4
    have n2 : tN ns ls d = tN ns ls e := by
      rcases Int.lt_trichotomy (zN (tN ns ls d)) (zN (tN ns ls e)) with h1 | h1 | h1
      · have := on_line o4 o5 o2 t2 (by omega) h1
        rw [this] at g5; cases g5
      · exact zN_inj o2 o5 h1
      · have := on_line o1 o2 o5 t4 (by omega) h1
        rw [this] at g3; cases g3
    rw [n1, n2] at g1
    simp at g1
  · exact nc_core hw he hd ue ud (fun e => hne e.symm) (s := t) (t := t + 1) (by omega) hs2 hs1 (by omega) (by omega) h (by omega)

end
end Go.Proofs.YtepacoacalhdcaaGreat

namespace Go.Proofs.YtepacoacalhdcaaGreat
open Go.RowKit
set_option linter.unusedVariables false
set_option linter.unusedSimpArgs false

def sumT (F : Nat → Int) : Nat → Int
  | 0 => 0
  | n + 1 => sumT F n + F n

theorem sumT_congr {F G : Nat → Int} : ∀ n, (∀ i, i < n → F i = G i) → sumT F n = sumT G n
  | 0, _ => rfl
  | n + 1, h => by
    unfold sumT
    rw [sumT_congr n fun i hi => h i (by omega), h n (by omega)]

theorem sumT_add (F G : Nat → Int) : ∀ n, sumT (fun i => F i + G i) n = sumT F n + sumT G n
  | 0 => rfl
  | n + 1 => by
    unfold sumT
    rw [sumT_add F G n]
    omega

theorem sumT_neg (F : Nat → Int) : ∀ n, sumT (fun i => -F i) n = -sumT F n
  | 0 => rfl
  | n + 1 => by
    unfold sumT
    rw [sumT_neg F n]
    omega

theorem sumT_zero {F : Nat → Int} : ∀ n, (∀ i, i < n → F i = 0) → sumT F n = 0
  | 0, _ => rfl
  | n + 1, h => by
    unfold sumT
    rw [sumT_zero n fun i hi => h i (by omega), h n (by omega)]
    rfl

theorem sumT_one {F : Nat → Int} {x : Nat} : ∀ n, x < n → (∀ i, i < n → i ≠ x → F i = 0) → sumT F n = F x
  | 0, h, _ => by omega
  | n + 1, h, h0 => by
    unfold sumT
    by_cases e : x = n
    · subst e
      rw [sumT_zero x fun i hi => h0 i (by omega) (by omega)]
      omega
    · rw [sumT_one n (by omega) fun i hi => h0 i (by omega), h0 n (by omega) (fun h => e h.symm)]
      omega

theorem sumT_tw (F : Nat → Int) : ∀ n, sumT (fun d => F (tw d)) (2 * n) = sumT F (2 * n)
  | 0 => rfl
  | n + 1 => by
    have ih := sumT_tw F n
    rw [show 2 * (n + 1) = 2 * n + 1 + 1 by omega]
    unfold sumT
    unfold sumT
    rw [ih, show tw (2 * n) = 2 * n + 1 by unfold tw; rw [if_neg (by omega)], show tw (2 * n + 1) = 2 * n by unfold tw; rw [if_pos (by omega)]; omega]
    omega

theorem sumT_filt (p : Nat → Bool) (F : Nat → Int) : ∀ n, sumZ (((List.range n).filter p).map F) = sumT (fun d => if p d = true then F d else 0) n
  | 0 => rfl
  | n + 1 => by
    rw [List.range_succ, List.filter_append, List.map_append, sumZ_app, sumT_filt p F n]
    show _ = sumT _ n + _
    by_cases h : p n = true
    · simp [h, sumZ]
    · simp [h, sumZ]

/-- What c has on all upward darts of which P holds. -/
def uS (ns ls : List Nd) (c : Nat → Int) (P : Nat → Bool) : Int := sumT (fun d => if (upB ns ls d && P d) = true then c d else 0) (2 * ls.length)

section

variable {ns ls : List Nd} {c : Nat → Int}

theorem uS_congr {P R : Nat → Bool} (h : ∀ d, d < 2 * ls.length → upB ns ls d = true → P d = R d) : uS ns ls c P = uS ns ls c R := by
  refine sumT_congr _ fun d hd => ?_
  by_cases hu : upB ns ls d = true
  · rw [h d hd hu]
  · rw [Bool.not_eq_true] at hu
    rw [hu]
    simp

theorem uS_none {P : Nat → Bool} (h : ∀ d, d < 2 * ls.length → upB ns ls d = true → P d = false) : uS ns ls c P = 0 := by
  refine sumT_zero _ fun d hd => ?_
  by_cases hu : upB ns ls d = true
  · rw [h d hd hu]; simp
  · rw [Bool.not_eq_true] at hu
    rw [hu]
    simp

theorem uS_split3 {P A R : Nat → Bool} (h : ∀ d, d < 2 * ls.length → upB ns ls d = true → P d = (A d || R d) ∧ (A d && R d) = false) : uS ns ls c P = uS ns ls c A + uS ns ls c R := by
  unfold uS
  rw [← sumT_add]
  refine sumT_congr _ fun d hd => ?_
  by_cases hu : upB ns ls d = true
  · obtain ⟨h1, h2⟩ := h d hd hu
    rw [h1, hu]
    cases e1 : A d <;> cases e2 : R d
    · simp
    · simp
    · simp
    · rw [e1, e2] at h2; cases h2
  · rw [Bool.not_eq_true] at hu
    rw [hu]
    simp

end

/-- As much comes to each node as goes from it. -/
structure Circ (ns ls : List Nd) (c : Nat → Int) : Prop where
  anti : ∀ d, d < 2 * ls.length → c (tw d) = -c d
  div : ∀ v : Nat, v < ns.length → sumT (fun d => if dF ls d = v then c d else 0) (2 * ls.length) = 0

section

variable {ns ls : List Nd} {c : Nat → Int}

theorem up_tw (hw : winB ns ls = true) {d : Nat} (hd : d < 2 * ls.length) : upB ns ls (tw d) = !upB ns ls d := by
  have h1 := dz_ne hw hd
  have h2 := dz_tw ns ls d
  unfold upB
  rw [Bool.eq_iff_iff]
  simp
  omega

theorem div_up (hw : winB ns ls = true) (hc : Circ ns ls c) {v : Nat} (hv : v < ns.length) : uS ns ls c (fun d => decide (dF ls d = v)) = uS ns ls c (fun d => decide (dT ls d = v)) := by
  have h0 := hc.div v hv
  have h1 : sumT (fun d => if dF ls d = v then c d else 0) (2 * ls.length) = uS ns ls c (fun d => decide (dF ls d = v)) + sumT (fun d => if (!upB ns ls d && decide (dF ls d = v)) = true then c d else 0) (2 * ls.length) := by
    unfold uS
    rw [← sumT_add]
    refine sumT_congr _ fun d hd => ?_
    cases upB ns ls d <;> by_cases e : dF ls d = v <;> simp [e]
  have h2 : sumT (fun d => if (!upB ns ls d && decide (dF ls d = v)) = true then c d else 0) (2 * ls.length) = -uS ns ls c (fun d => decide (dT ls d = v)) := by
    rw [← sumT_tw]
    unfold uS
    rw [← sumT_neg]
    refine sumT_congr _ fun d hd => ?_
    rw [up_tw hw hd, dF_tw, hc.anti d hd]
    cases upB ns ls d <;> by_cases e : dT ls d = v <;> simp [e]
  omega

theorem from_node (hw : winB ns ls = true) {d v : Nat} (hd : d < 2 * ls.length) (hv : v < ns.length) : dF ls d = v ↔ zN (fN ns ls d) = zN (atN ns v) := by
  obtain ⟨a, b, h1, h2, ha, hb, _⟩ := dart_nat (ns := ns) hw hd
  have hf : fN ns ls d = atN ns a := by unfold fN; rw [h1]; rfl
  have ok := fun i (hi : i < ns.length) => (((winB_iff ns ls).1 hw).2.1 i hi).1
  rw [hf, h1]
  constructor
  · intro h
    obtain rfl : a = v := by omega
    rfl
  · intro h
    rw [win_apart hw ha hv (zN_inj (ok a ha) (ok v hv) h)]

theorem to_node (hw : winB ns ls = true) {d v : Nat} (hd : d < 2 * ls.length) (hv : v < ns.length) : dT ls d = v ↔ zN (tN ns ls d) = zN (atN ns v) := by
  rw [← dF_tw, ← fN_tw]
  exact from_node hw (tw_lt hd) hv

theorem node_of (hw : winB ns ls = true) {d : Nat} (hd : d < 2 * ls.length) : (∃ v : Nat, dF ls d = v ∧ v < ns.length ∧ fN ns ls d = atN ns v) ∧ ∃ v : Nat, dT ls d = v ∧ v < ns.length ∧ tN ns ls d = atN ns v := by
  obtain ⟨a, b, h1, h2, ha, hb, _⟩ := dart_nat (ns := ns) hw hd
  exact ⟨⟨a, h1, ha, by unfold fN; rw [h1]; rfl⟩, ⟨b, h2, hb, by unfold tN; rw [h2]; rfl⟩⟩

/-- No node lies on a lead. -/
theorem off_lead (hw : winB ns ls = true) {d v : Nat} (hd : d < 2 * ls.length) (hu : upB ns ls d = true) (hv : v < ns.length) (h1 : zN (fN ns ls d) < zN (atN ns v)) (h2 : zN (atN ns v) < zN (tN ns ls d)) : pD ns ls d (zN (atN ns v)) ≠ mM ns ls * (atN ns v).x := by
  intro h
  obtain ⟨o1, o2, _⟩ := dart_ok hw hd
  have ht : turnI (fN ns ls d) (tN ns ls d) (atN ns v) = 0 := by have := pD_side hw hd hu (atN ns v); omega
  have ov := (((winB_iff ns ls).1 hw).2.1 v hv).1
  have hb := on_line o1 o2 ov ht h1 h2
  have hl := ((winB_iff ns ls).1 hw).2.2 (d / 2) (by omega)
  have hon : ∀ (h3 : (v : Int) ≠ (atN ls (d / 2)).x) (h4 : (v : Int) ≠ (atN ls (d / 2)).y), betweenB (atI ns (atN ls (d / 2)).x) (atI ns (atN ls (d / 2)).y) (atN ns v) = false := by
    intro h3 h4
    have := hl.2.2 v hv h3 h4
    unfold onLeadB at this
    rw [hl.1, Bool.true_and] at this
    simp only [Bool.or_eq_false_iff] at this
    exact this.2
  have e1 : dF ls d ≠ v := fun e => by rw [from_node hw hd hv] at e; omega
  have e2 : dT ls d ≠ v := fun e => by rw [to_node hw hd hv] at e; omega
  unfold fN tN at hb
  unfold dF at e1 hb
  unfold dT at e2 hb
  by_cases e : d % 2 = 1
  · rw [if_pos e] at e1 e2 hb
    rw [if_pos e, between_comm, hon (fun h => e2 h.symm) (fun h => e1 h.symm)] at hb
    cases hb
  · rw [if_neg e] at e1 e2 hb
    rw [if_neg e, hon (fun h => e1 h.symm) (fun h => e2 h.symm)] at hb
    cases hb

def spB (ns ls : List Nd) (d : Nat) (t : Int) : Bool := decide (zN (fN ns ls d) ≤ t) && decide (t < zN (tN ns ls d))

theorem spB_iff {d : Nat} {t : Int} : spB ns ls d t = true ↔ zN (fN ns ls d) ≤ t ∧ t < zN (tN ns ls d) := by simp [spB]

section

variable (hw : winB ns ls = true) {d e : Nat} (hd : d < 2 * ls.length) (he : e < 2 * ls.length) (ud : upB ns ls d = true) (ue : upB ns ls e = true) (hne : d ≠ e)
include hw hd he ud ue hne

theorem q_of_p {t : Int} (h1 : spB ns ls d t = true) (h2 : spB ns ls e t = true) (h : pD ns ls d t < pD ns ls e t ∨ pD ns ls d (t + 1) < pD ns ls e (t + 1)) : qD ns ls d t < qD ns ls e t := by
  rw [spB_iff] at h1 h2
  refine Int.not_le.1 fun hn => ?_
  unfold qD at hn
  rcases h with h | h
  · exact nc_core hw hd he ud ue hne (s := t) (t := t + 1) (by omega) h1.1 h2.1 (by omega) (by omega) h (by omega)
  · exact nc_core hw he hd ue ud (fun e => hne e.symm) (s := t) (t := t + 1) (by omega) h2.1 h1.1 (by omega) (by omega) (by omega) h

theorem q_keep1 {t : Int} (h1 : spB ns ls d (t - 1) = true) (h2 : spB ns ls e (t - 1) = true) (h3 : spB ns ls d t = true) (h4 : spB ns ls e t = true) (h : qD ns ls d (t - 1) < qD ns ls e (t - 1)) : qD ns ls d t < qD ns ls e t := by
  rw [spB_iff] at h1 h2
  have k3 := spB_iff.1 h3
  have k4 := spB_iff.1 h4
  by_cases ht : pD ns ls d t < pD ns ls e t
  · exact q_of_p hw hd he ud ue hne h3 h4 (.inl ht)
  · unfold qD at h
    rw [show t - 1 + 1 = t by omega] at h
    have hlo : pD ns ls d (t - 1) < pD ns ls e (t - 1) := by omega
    have h5 : ¬ pD ns ls e (t + 1) < pD ns ls d (t + 1) := fun h5 => nc_core hw hd he ud ue hne (s := t - 1) (t := t + 1) (by omega) h1.1 h2.1 (by omega) (by omega) hlo h5
    have h6 : ¬ pD ns ls e t < pD ns ls d t := fun h6 => nc_core hw hd he ud ue hne (s := t - 1) (t := t) (by omega) h1.1 h2.1 (by omega) (by omega) hlo h6
    have h7 := q_ne hw hd he ud ue hne k3.1 k4.1 k3.2 k4.2
    unfold qD at *
    omega

end

theorem q_keep (hw : winB ns ls = true) {d e : Nat} (hd : d < 2 * ls.length) (he : e < 2 * ls.length) (ud : upB ns ls d = true) (ue : upB ns ls e = true) {t : Int} (h1 : spB ns ls d (t - 1) = true) (h2 : spB ns ls e (t - 1) = true) (h3 : spB ns ls d t = true) (h4 : spB ns ls e t = true) : (qD ns ls d (t - 1) < qD ns ls e (t - 1)) ↔ qD ns ls d t < qD ns ls e t := by
  by_cases hne : d = e
  · subst hne; omega
  constructor
  · exact q_keep1 hw hd he ud ue hne h1 h2 h3 h4
  · intro h
    refine Int.not_le.1 fun hn => ?_
    have k1 := spB_iff.1 h1
    have k2 := spB_iff.1 h2
    have h7 := q_ne hw hd he ud ue hne k1.1 k2.1 k1.2 k2.2
    have := q_keep1 hw he hd ue ud (fun e => hne e.symm) h2 h1 h4 h3 (by omega)
    omega

/-- What c has to the left of dart g, at height t. -/
def wT (ns ls : List Nd) (c : Nat → Int) (g : Nat) (t : Int) : Int := uS ns ls c (fun k => spB ns ls k t && decide (qD ns ls k t < qD ns ls g t))

theorem wT_step (hw : winB ns ls = true) (hc : Circ ns ls c) {g : Nat} (hg : g < 2 * ls.length) (ug : upB ns ls g = true) {t : Int} (h1 : zN (fN ns ls g) < t) (h2 : t < zN (tN ns ls g)) : wT ns ls c g t = wT ns ls c g (t - 1) := by
  have sg1 : spB ns ls g t = true := spB_iff.2 (by omega)
  have sg2 : spB ns ls g (t - 1) = true := spB_iff.2 (by omega)
  have e1 : wT ns ls c g t = uS ns ls c (fun k => (spB ns ls k t && spB ns ls k (t - 1)) && decide (qD ns ls k t < qD ns ls g t)) + uS ns ls c (fun k => decide (zN (fN ns ls k) = t) && decide (qD ns ls k t < qD ns ls g t)) := by
    refine uS_split3 fun d hd hu => ?_
    rw [upB_iff] at hu
    unfold spB
    constructor
    · rw [Bool.eq_iff_iff]; simp; omega
    · rw [Bool.eq_false_iff]; simp; omega
  have e2 : wT ns ls c g (t - 1) = uS ns ls c (fun k => (spB ns ls k t && spB ns ls k (t - 1)) && decide (qD ns ls k (t - 1) < qD ns ls g (t - 1))) + uS ns ls c (fun k => decide (zN (tN ns ls k) = t) && decide (qD ns ls k (t - 1) < qD ns ls g (t - 1))) := by
    refine uS_split3 fun d hd hu => ?_
    rw [upB_iff] at hu
    unfold spB
    constructor
    · rw [Bool.eq_iff_iff]; simp; omega
    · rw [Bool.eq_false_iff]; simp; omega
  have e3 : uS ns ls c (fun k => (spB ns ls k t && spB ns ls k (t - 1)) && decide (qD ns ls k t < qD ns ls g t)) = uS ns ls c (fun k => (spB ns ls k t && spB ns ls k (t - 1)) && decide (qD ns ls k (t - 1) < qD ns ls g (t - 1))) := by
    refine uS_congr fun d hd hu => ?_
    by_cases hs : spB ns ls d t = true ∧ spB ns ls d (t - 1) = true
    · rw [decide_eq_decide.2 (q_keep hw hd hg hu ug hs.2 sg2 hs.1 sg1)]
    · have : (spB ns ls d t && spB ns ls d (t - 1)) = false := by
        rw [Bool.eq_false_iff]
        simpa using hs
      rw [this]
      rfl
  have e4 : uS ns ls c (fun k => decide (zN (fN ns ls k) = t) && decide (qD ns ls k t < qD ns ls g t)) = uS ns ls c (fun k => decide (zN (tN ns ls k) = t) && decide (qD ns ls k (t - 1) < qD ns ls g (t - 1))) := by
    by_cases hv : ∃ v : Nat, v < ns.length ∧ zN (atN ns v) = t
    · obtain ⟨v, hvl, rfl⟩ := hv
      have hoff := off_lead hw hg ug hvl h1 h2
      have hup : ∀ d, d < 2 * ls.length → upB ns ls d = true → zN (fN ns ls d) = zN (atN ns v) → (qD ns ls d (zN (atN ns v)) < qD ns ls g (zN (atN ns v)) ↔ mM ns ls * (atN ns v).x < pD ns ls g (zN (atN ns v))) := by
        intro d hd hu hz
        have hne : d ≠ g := by rintro rfl; omega
        have hfd : fN ns ls d = atN ns v := zN_inj (dart_ok hw hd).1 (((winB_iff ns ls).1 hw).2.1 v hvl).1 hz
        have hpd := pD_from hw hd hu
        rw [hfd] at hpd
        have sd : spB ns ls d (zN (atN ns v)) = true := spB_iff.2 (by rw [upB_iff] at hu; omega)
        constructor
        · intro h
          refine Int.not_le.1 fun hn => ?_
          have := q_of_p hw hg hd ug hu (fun e => hne e.symm) sg1 sd (.inl (by omega))
          omega
        · intro h
          exact q_of_p hw hd hg hu ug hne sd sg1 (.inl (by omega))
      have hdn : ∀ d, d < 2 * ls.length → upB ns ls d = true → zN (tN ns ls d) = zN (atN ns v) → (qD ns ls d (zN (atN ns v) - 1) < qD ns ls g (zN (atN ns v) - 1) ↔ mM ns ls * (atN ns v).x < pD ns ls g (zN (atN ns v))) := by
        intro d hd hu hz
        have hne : d ≠ g := by rintro rfl; omega
        have hfd : tN ns ls d = atN ns v := zN_inj (dart_ok hw hd).2.1 (((winB_iff ns ls).1 hw).2.1 v hvl).1 hz
        have hpd := pD_to hw hd hu
        rw [hfd] at hpd
        have sd : spB ns ls d (zN (atN ns v) - 1) = true := spB_iff.2 (by rw [upB_iff] at hu; omega)
        constructor
        · intro h
          refine Int.not_le.1 fun hn => ?_
          have := q_of_p hw hg hd ug hu (fun e => hne e.symm) sg2 sd (.inr (by rw [show zN (atN ns v) - 1 + 1 = zN (atN ns v) by omega]; omega))
          omega
        · intro h
          exact q_of_p hw hd hg hu ug hne sd sg2 (.inr (by rw [show zN (atN ns v) - 1 + 1 = zN (atN ns v) by omega]; omega))
      by_cases hwest : mM ns ls * (atN ns v).x < pD ns ls g (zN (atN ns v))
      · have a1 : uS ns ls c (fun k => decide (zN (fN ns ls k) = zN (atN ns v)) && decide (qD ns ls k (zN (atN ns v)) < qD ns ls g (zN (atN ns v)))) = uS ns ls c (fun k => decide (dF ls k = v)) := uS_congr fun d hd hu => by
          rw [decide_eq_decide.2 (from_node hw hd hvl)]
          by_cases hz : zN (fN ns ls d) = zN (atN ns v)
          · rw [decide_eq_true ((hup d hd hu hz).2 hwest)]; simp
          · rw [decide_eq_false hz]; rfl
        have a2 : uS ns ls c (fun k => decide (zN (tN ns ls k) = zN (atN ns v)) && decide (qD ns ls k (zN (atN ns v) - 1) < qD ns ls g (zN (atN ns v) - 1))) = uS ns ls c (fun k => decide (dT ls k = v)) := uS_congr fun d hd hu => by
          rw [decide_eq_decide.2 (to_node hw hd hvl)]
          by_cases hz : zN (tN ns ls d) = zN (atN ns v)
          · rw [decide_eq_true ((hdn d hd hu hz).2 hwest)]; simp
          · rw [decide_eq_false hz]; rfl
        rw [a1, a2]
        exact div_up hw hc hvl
      · rw [uS_none (fun d hd hu => ?_), uS_none (fun d hd hu => ?_)]
        · by_cases hz : zN (tN ns ls d) = zN (atN ns v)
          · rw [decide_eq_false (fun h => hwest ((hdn d hd hu hz).1 h))]; simp
          · rw [decide_eq_false hz]; rfl
        · by_cases hz : zN (fN ns ls d) = zN (atN ns v)
          · rw [decide_eq_false (fun h => hwest ((hup d hd hu hz).1 h))]; simp
          · rw [decide_eq_false hz]; rfl
    · rw [uS_none (fun d hd hu => ?_), uS_none (fun d hd hu => ?_)]
      · obtain ⟨_, v, h3, h4, h5⟩ := node_of hw hd
        rw [decide_eq_false (fun h => hv ⟨v, h4, by rw [← h5]; exact h⟩)]; rfl
      · obtain ⟨⟨v, h3, h4, h5⟩, _⟩ := node_of hw hd
        rw [decide_eq_false (fun h => hv ⟨v, h4, by rw [← h5]; exact h⟩)]; rfl
  omega

theorem wT_all (hw : winB ns ls = true) (hc : Circ ns ls c) {g : Nat} (hg : g < 2 * ls.length) (ug : upB ns ls g = true) : ∀ n : Nat, zN (fN ns ls g) + n < zN (tN ns ls g) → wT ns ls c g (zN (fN ns ls g) + n) = wT ns ls c g (zN (fN ns ls g))
  | 0, _ => by simp
  | n + 1, h => by
    have ih := wT_all hw hc hg ug n (by omega)
    rw [wT_step hw hc hg ug (by omega) (by omega), show zN (fN ns ls g) + ((n + 1 : Nat) : Int) - 1 = zN (fN ns ls g) + n by omega, ih]

theorem wT_same (hw : winB ns ls = true) (hc : Circ ns ls c) {g : Nat} (hg : g < 2 * ls.length) (ug : upB ns ls g = true) {t : Int} (hs : spB ns ls g t = true) : wT ns ls c g t = wT ns ls c g (zN (fN ns ls g)) := by
  rw [spB_iff] at hs
  have := wT_all hw hc hg ug (t - zN (fN ns ls g)).toNat (by omega)
  rwa [show zN (fN ns ls g) + ((t - zN (fN ns ls g)).toNat : Int) = t by omega] at this

/-- What c has to the left of the dart. -/
def wD (ns ls : List Nd) (c : Nat → Int) (d : Nat) : Int := if upB ns ls d = true then wT ns ls c d (zN (fN ns ls d)) else wT ns ls c (tw d) (zN (tN ns ls d)) + c (tw d)

theorem wD_tw (hw : winB ns ls = true) (hc : Circ ns ls c) {d : Nat} (hd : d < 2 * ls.length) : wD ns ls c (tw d) = wD ns ls c d + c d := by
  unfold wD
  rw [up_tw hw hd, tw_tw, tN_tw, fN_tw]
  by_cases hu : upB ns ls d = true
  · rw [hu]; simp
  · rw [Bool.not_eq_true] at hu
    rw [hu]
    have := hc.anti d hd
    simp
    omega

end
end Go.Proofs.YtepacoacalhdcaaGreat

namespace Go.Proofs.YtepacoacalhdcaaGreat
open Go.RowKit
set_option linter.unusedVariables false
set_option linter.unusedSimpArgs false

def bV (ns ls : List Nd) (c : Nat → Int) (v : Nat) : Int := uS ns ls c (fun k => (decide (zN (fN ns ls k) < zN (atN ns v)) && decide (zN (atN ns v) < zN (tN ns ls k))) && decide (pD ns ls k (zN (atN ns v)) < mM ns ls * (atN ns v).x))

section

variable {ns ls : List Nd} {c : Nat → Int}

theorem node_up (hw : winB ns ls = true) {g v : Nat} (hg : g < 2 * ls.length) (ug : upB ns ls g = true) (hv : v < ns.length) (hgv : dF ls g = v) :
    wT ns ls c g (zN (atN ns v)) = bV ns ls c v + uS ns ls c (fun k => decide (dF ls k = v) && decide (sD ns ls k < sD ns ls g)) := by
  have hz := (from_node hw hg hv).1 hgv
  have hfg : fN ns ls g = atN ns v := zN_inj (dart_ok hw hg).1 (((winB_iff ns ls).1 hw).2.1 v hv).1 hz
  have hpg := pD_from hw hg ug
  rw [hfg] at hpg
  have sg : spB ns ls g (zN (atN ns v)) = true := spB_iff.2 (by rw [upB_iff] at ug; omega)
  refine uS_split3 fun d hd hu => ?_
  have hu' := upB_iff.1 hu
  rw [decide_eq_decide.2 (from_node hw hd hv)]
  by_cases h1 : zN (fN ns ls d) = zN (atN ns v)
  · have hfd : fN ns ls d = atN ns v := zN_inj (dart_ok hw hd).1 (((winB_iff ns ls).1 hw).2.1 v hv).1 h1
    have hpd := pD_from hw hd hu
    rw [hfd] at hpd
    have e1 : spB ns ls d (zN (atN ns v)) = true := spB_iff.2 (by omega)
    have e2 : decide (qD ns ls d (zN (atN ns v)) < qD ns ls g (zN (atN ns v))) = decide (sD ns ls d < sD ns ls g) := by
      rw [decide_eq_decide]
      unfold qD
      rw [pD_lin ns ls d (zN (atN ns v)) (zN (atN ns v) + 1), pD_lin ns ls g (zN (atN ns v)) (zN (atN ns v) + 1), hpd, hpg, show zN (atN ns v) + 1 - zN (atN ns v) = 1 by omega, Int.one_mul, Int.one_mul]
      omega
    rw [e1, e2, decide_eq_true h1, decide_eq_false (show ¬ zN (fN ns ls d) < zN (atN ns v) by omega)]
    simp
  · rw [decide_eq_false h1]
    by_cases h2 : zN (fN ns ls d) < zN (atN ns v) ∧ zN (atN ns v) < zN (tN ns ls d)
    · have hne : d ≠ g := by rintro rfl; omega
      have e1 : spB ns ls d (zN (atN ns v)) = true := spB_iff.2 (by omega)
      have hoff := off_lead hw hd hu hv h2.1 h2.2
      have e2 : decide (qD ns ls d (zN (atN ns v)) < qD ns ls g (zN (atN ns v))) = decide (pD ns ls d (zN (atN ns v)) < mM ns ls * (atN ns v).x) := by
        rw [decide_eq_decide]
        constructor
        · intro h
          refine Int.not_le.1 fun hn => ?_
          have := q_of_p hw hg hd ug hu (fun e => hne e.symm) sg e1 (.inl (by omega))
          omega
        · intro h
          exact q_of_p hw hd hg hu ug hne e1 sg (.inl (by omega))
      rw [e1, e2, decide_eq_true h2.1, decide_eq_true h2.2]
      simp
    · have e1 : spB ns ls d (zN (atN ns v)) = false := by rw [Bool.eq_false_iff]; intro h; rw [spB_iff] at h; omega
      have e2 : (decide (zN (fN ns ls d) < zN (atN ns v)) && decide (zN (atN ns v) < zN (tN ns ls d))) = false := by rw [Bool.eq_false_iff]; intro h; simp at h; exact h2 h
      rw [e1, e2]
      simp

theorem node_dn (hw : winB ns ls = true) {g v : Nat} (hg : g < 2 * ls.length) (ug : upB ns ls g = true) (hv : v < ns.length) (hgv : dT ls g = v) :
    wT ns ls c g (zN (atN ns v) - 1) = bV ns ls c v + uS ns ls c (fun k => decide (dT ls k = v) && decide (sD ns ls g < sD ns ls k)) := by
  have hz := (to_node hw hg hv).1 hgv
  have hfg : tN ns ls g = atN ns v := zN_inj (dart_ok hw hg).2.1 (((winB_iff ns ls).1 hw).2.1 v hv).1 hz
  have hpg := pD_to hw hg ug
  rw [hfg] at hpg
  have sg : spB ns ls g (zN (atN ns v) - 1) = true := spB_iff.2 (by rw [upB_iff] at ug; omega)
  have ht : zN (atN ns v) - 1 + 1 = zN (atN ns v) := by omega
  refine uS_split3 fun d hd hu => ?_
  have hu' := upB_iff.1 hu
  rw [decide_eq_decide.2 (to_node hw hd hv)]
  by_cases h1 : zN (tN ns ls d) = zN (atN ns v)
  · have hfd : tN ns ls d = atN ns v := zN_inj (dart_ok hw hd).2.1 (((winB_iff ns ls).1 hw).2.1 v hv).1 h1
    have hpd := pD_to hw hd hu
    rw [hfd] at hpd
    have e1 : spB ns ls d (zN (atN ns v) - 1) = true := spB_iff.2 (by omega)
    have e2 : decide (qD ns ls d (zN (atN ns v) - 1) < qD ns ls g (zN (atN ns v) - 1)) = decide (sD ns ls g < sD ns ls d) := by
      rw [decide_eq_decide]
      unfold qD
      rw [ht, pD_lin ns ls d (zN (atN ns v)) (zN (atN ns v) - 1), pD_lin ns ls g (zN (atN ns v)) (zN (atN ns v) - 1), hpd, hpg, show zN (atN ns v) - 1 - zN (atN ns v) = -1 by omega]
      omega
    rw [e1, e2, decide_eq_true h1, decide_eq_false (show ¬ zN (atN ns v) < zN (tN ns ls d) by omega)]
    simp
  · rw [decide_eq_false h1]
    by_cases h2 : zN (fN ns ls d) < zN (atN ns v) ∧ zN (atN ns v) < zN (tN ns ls d)
    · have hne : d ≠ g := by rintro rfl; omega
      have e1 : spB ns ls d (zN (atN ns v) - 1) = true := spB_iff.2 (by omega)
      have hoff := off_lead hw hd hu hv h2.1 h2.2
      have e2 : decide (qD ns ls d (zN (atN ns v) - 1) < qD ns ls g (zN (atN ns v) - 1)) = decide (pD ns ls d (zN (atN ns v)) < mM ns ls * (atN ns v).x) := by
        rw [decide_eq_decide]
        constructor
        · intro h
          refine Int.not_le.1 fun hn => ?_
          have := q_of_p hw hg hd ug hu (fun e => hne e.symm) sg e1 (.inr (by rw [ht]; omega))
          omega
        · intro h
          exact q_of_p hw hd hg hu ug hne e1 sg (.inr (by rw [ht]; omega))
      rw [e1, e2, decide_eq_true h2.1, decide_eq_true h2.2]
      simp
    · have e1 : spB ns ls d (zN (atN ns v) - 1) = false := by rw [Bool.eq_false_iff]; intro h; rw [spB_iff] at h; omega
      have e2 : (decide (zN (fN ns ls d) < zN (atN ns v)) && decide (zN (atN ns v) < zN (tN ns ls d))) = false := by rw [Bool.eq_false_iff]; intro h; simp at h; exact h2 h
      rw [e1, e2]
      simp

/-- The darts of a node in their order around it. -/
def hV (ns ls : List Nd) (d : Nat) : Nat := if upB ns ls d = true then 0 else 1

def sV (ns ls : List Nd) (d : Nat) : Int := if upB ns ls d = true then sD ns ls d else sD ns ls (tw d)

def leV (ns ls : List Nd) (e d : Nat) : Bool := decide (hV ns ls e < hV ns ls d) || (decide (hV ns ls e = hV ns ls d) && decide (sV ns ls d ≤ sV ns ls e))

def bfV (ns ls : List Nd) (e d : Nat) : Bool := decide (hV ns ls e < hV ns ls d) || (decide (hV ns ls e = hV ns ls d) && decide (sV ns ls d < sV ns ls e))

theorem leV_iff {e d : Nat} : leV ns ls e d = true ↔ hV ns ls e < hV ns ls d ∨ (hV ns ls e = hV ns ls d ∧ sV ns ls d ≤ sV ns ls e) := by simp [leV]

theorem bfV_iff {e d : Nat} : bfV ns ls e d = true ↔ hV ns ls e < hV ns ls d ∨ (hV ns ls e = hV ns ls d ∧ sV ns ls d < sV ns ls e) := by simp [bfV]

def cV (ns ls : List Nd) (c : Nat → Int) (v d : Nat) : Int := sumT (fun e => if (decide (dF ls e = v) && leV ns ls e d) = true then c e else 0) (2 * ls.length)

theorem uS_one {g : Nat} (hg : g < 2 * ls.length) (ug : upB ns ls g = true) : uS ns ls c (fun k => decide (k = g)) = c g := by
  unfold uS
  rw [sumT_one _ hg]
  · rw [ug]; simp
  · intro i _ hne
    simp [hne]

theorem slope_ne_up (hw : winB ns ls = true) {d e v : Nat} (hd : d < 2 * ls.length) (he : e < 2 * ls.length) (ud : upB ns ls d = true) (ue : upB ns ls e = true) (hv : v < ns.length) (h1 : dF ls d = v) (h2 : dF ls e = v) (hs : sD ns ls d = sD ns ls e) : d = e := by
  refine Classical.byContradiction fun hne => ?_
  have ok := (((winB_iff ns ls).1 hw).2.1 v hv).1
  have f1 : fN ns ls d = atN ns v := zN_inj (dart_ok hw hd).1 ok ((from_node hw hd hv).1 h1)
  have f2 : fN ns ls e = atN ns v := zN_inj (dart_ok hw he).1 ok ((from_node hw he hv).1 h2)
  have p1 := pD_from hw hd ud
  have p2 := pD_from hw he ue
  have u1 := upB_iff.1 ud
  have u2 := upB_iff.1 ue
  rw [f1] at p1 u1
  rw [f2] at p2 u2
  refine q_ne hw hd he ud ue hne (t := zN (atN ns v)) (by rw [f1]; omega) (by rw [f2]; omega) u1 u2 ?_
  unfold qD
  rw [pD_lin ns ls d (zN (atN ns v)) (zN (atN ns v) + 1), pD_lin ns ls e (zN (atN ns v)) (zN (atN ns v) + 1), p1, p2, hs]

theorem slope_ne_dn (hw : winB ns ls = true) {d e v : Nat} (hd : d < 2 * ls.length) (he : e < 2 * ls.length) (ud : upB ns ls d = true) (ue : upB ns ls e = true) (hv : v < ns.length) (h1 : dT ls d = v) (h2 : dT ls e = v) (hs : sD ns ls d = sD ns ls e) : d = e := by
  refine Classical.byContradiction fun hne => ?_
  have ok := (((winB_iff ns ls).1 hw).2.1 v hv).1
  have f1 : tN ns ls d = atN ns v := zN_inj (dart_ok hw hd).2.1 ok ((to_node hw hd hv).1 h1)
  have f2 : tN ns ls e = atN ns v := zN_inj (dart_ok hw he).2.1 ok ((to_node hw he hv).1 h2)
  have p1 := pD_to hw hd ud
  have p2 := pD_to hw he ue
  have u1 := upB_iff.1 ud
  have u2 := upB_iff.1 ue
  rw [f1] at p1 u1
  rw [f2] at p2 u2
  refine q_ne hw hd he ud ue hne (t := zN (atN ns v) - 1) (by omega) (by omega) (by rw [f1]; omega) (by rw [f2]; omega) ?_
  unfold qD
  rw [show zN (atN ns v) - 1 + 1 = zN (atN ns v) by omega, pD_lin ns ls d (zN (atN ns v)) (zN (atN ns v) - 1), pD_lin ns ls e (zN (atN ns v)) (zN (atN ns v) - 1), p1, p2, hs]

theorem wD_at (hw : winB ns ls = true) (hc : Circ ns ls c) {d v : Nat} (hd : d < 2 * ls.length) (hv : v < ns.length) (hdv : dF ls d = v) :
    wD ns ls c d = bV ns ls c v + uS ns ls c (fun k => decide (dF ls k = v)) - cV ns ls c v d := by
  by_cases hu : upB ns ls d = true
  · have h1 := node_up (c := c) hw hd hu hv hdv
    have hz := (from_node hw hd hv).1 hdv
    have e0 : wD ns ls c d = wT ns ls c d (zN (atN ns v)) := by unfold wD; rw [if_pos hu, hz]
    have e1 : cV ns ls c v d = uS ns ls c (fun k => decide (dF ls k = v) && decide (sD ns ls d ≤ sD ns ls k)) := by
      unfold cV uS
      refine sumT_congr _ fun e he => ?_
      unfold leV hV sV
      rw [if_pos hu, if_pos hu]
      by_cases ue : upB ns ls e = true
      · rw [if_pos ue, if_pos ue, ue]; simp
      · rw [Bool.not_eq_true] at ue
        rw [ue]; simp
    have e2 : uS ns ls c (fun k => decide (dF ls k = v)) = uS ns ls c (fun k => decide (dF ls k = v) && decide (sD ns ls k < sD ns ls d)) + uS ns ls c (fun k => decide (dF ls k = v) && decide (sD ns ls d ≤ sD ns ls k)) := by
      refine uS_split3 fun e he ue => ?_
      constructor
      · rw [Bool.eq_iff_iff]; simp; omega
      · rw [Bool.eq_false_iff]; simp; omega
    omega
  · rw [Bool.not_eq_true] at hu
    have ug : upB ns ls (tw d) = true := by rw [up_tw hw hd, hu]; rfl
    have hgv : dT ls (tw d) = v := by rw [dT_tw]; exact hdv
    have hg := tw_lt hd
    have h1 := node_dn (c := c) hw hg ug hv hgv
    have hz := (to_node hw hg hv).1 hgv
    have hup := upB_iff.1 ug
    have e0 : wD ns ls c d = wT ns ls c (tw d) (zN (atN ns v) - 1) + c (tw d) := by
      unfold wD
      rw [if_neg (by rw [hu]; simp), wT_same hw hc hg ug (t := zN (atN ns v) - 1) (spB_iff.2 (by omega)), fN_tw]
    have e1 : cV ns ls c v d = uS ns ls c (fun k => decide (dF ls k = v)) - uS ns ls c (fun k => decide (dT ls k = v) && decide (sD ns ls (tw d) ≤ sD ns ls k)) := by
      have a1 : cV ns ls c v d = uS ns ls c (fun k => decide (dF ls k = v)) + sumT (fun e => if (!upB ns ls e && (decide (dF ls e = v) && decide (sD ns ls (tw d) ≤ sD ns ls (tw e)))) = true then c e else 0) (2 * ls.length) := by
        unfold cV uS
        rw [← sumT_add]
        refine sumT_congr _ fun e he => ?_
        unfold leV hV sV
        rw [hu]
        cases ue : upB ns ls e
        · simp
        · simp
      have a2 : sumT (fun e => if (!upB ns ls e && (decide (dF ls e = v) && decide (sD ns ls (tw d) ≤ sD ns ls (tw e)))) = true then c e else 0) (2 * ls.length) = -uS ns ls c (fun k => decide (dT ls k = v) && decide (sD ns ls (tw d) ≤ sD ns ls k)) := by
        rw [← sumT_tw]
        unfold uS
        rw [← sumT_neg]
        refine sumT_congr _ fun e he => ?_
        rw [up_tw hw he, dF_tw, tw_tw, hc.anti e he]
        cases upB ns ls e
        · simp
        · by_cases h : dT ls e = v ∧ sD ns ls (tw d) ≤ sD ns ls e
          · simp [h.1, h.2]
          · have : (decide (dT ls e = v) && decide (sD ns ls (tw d) ≤ sD ns ls e)) = false := by
              rw [Bool.eq_false_iff]; simpa using h
            simp [this]
      omega
    have e2 : uS ns ls c (fun k => decide (dT ls k = v) && decide (sD ns ls (tw d) ≤ sD ns ls k)) = uS ns ls c (fun k => decide (dT ls k = v) && decide (sD ns ls (tw d) < sD ns ls k)) + uS ns ls c (fun k => decide (k = tw d)) := by
      refine uS_split3 fun e he ue => ?_
      by_cases h : e = tw d
      · subst h
        rw [decide_eq_true hgv]
        simp
      · have : dT ls e = v → sD ns ls (tw d) ≠ sD ns ls e := fun h1 h2 => h (slope_ne_dn hw he hg ue ug hv h1 hgv h2.symm)
        rw [decide_eq_false h]
        constructor
        · rw [Bool.eq_iff_iff]; simp; omega
        · simp
    rw [uS_one hg ug] at e2
    omega

/-- The order of the model is the order around the node. -/
theorem half_up (hw : winB ns ls = true) {d v : Nat} (hd : d < 2 * ls.length) (hv : v < ns.length) (h : dF ls d = v) : halfI (atN ns v) (tN ns ls d) = (hV ns ls d : Int) := by
  have ok := (((winB_iff ns ls).1 hw).2.1 v hv).1
  have f1 : fN ns ls d = atN ns v := zN_inj (dart_ok hw hd).1 ok ((from_node hw hd hv).1 h)
  obtain ⟨o1, o2, o3⟩ := dart_ok hw hd
  have hiff : ((atN ns v).y < (tN ns ls d).y ∨ ((tN ns ls d).y = (atN ns v).y ∧ (atN ns v).x < (tN ns ls d).x)) ↔ upB ns ls d = true := by
    rw [upB_iff, f1]
    rw [okB_iff] at ok o2
    unfold zN
    omega
  unfold halfI hV
  by_cases hu : upB ns ls d = true
  · rw [if_pos (hiff.2 hu), if_pos hu]; rfl
  · rw [if_neg (fun e => hu (hiff.1 e)), if_neg hu]; rfl

theorem lt_sign {m a b : Int} (hm : 0 < m) : 0 < m * (a - b) ↔ b < a := by
  constructor
  · intro h
    refine Int.not_le.1 fun hn => ?_
    have := Int.mul_nonpos_of_nonneg_of_nonpos (Int.le_of_lt hm) (show a - b ≤ 0 by omega)
    omega
  · intro h
    exact Int.mul_pos hm (by omega)

theorem bf_is (hw : winB ns ls = true) {d e v : Nat} (hd : d < 2 * ls.length) (he : e < 2 * ls.length) (hv : v < ns.length) (h1 : dF ls d = v) (h2 : dF ls e = v) : ltD ns ls v d e = bfV ns ls d e := by
  have ok := (((winB_iff ns ls).1 hw).2.1 v hv).1
  have f1 : fN ns ls d = atN ns v := zN_inj (dart_ok hw hd).1 ok ((from_node hw hd hv).1 h1)
  have f2 : fN ns ls e = atN ns v := zN_inj (dart_ok hw he).1 ok ((from_node hw he hv).1 h2)
  have k1 := half_up hw hd hv h1
  have k2 := half_up hw he hv h2
  obtain ⟨o1, o2, o3⟩ := dart_ok hw hd
  obtain ⟨o4, o5, o6⟩ := dart_ok hw he
  show beforeB (atN ns v) (tN ns ls d) (tN ns ls e) = _
  unfold beforeB
  rw [ok, o2, o5, k1, k2]
  rw [Bool.eq_iff_iff, bfV_iff]
  by_cases hh : hV ns ls d = hV ns ls e
  · rw [if_pos (by omega)]
    simp only [Bool.true_and, decide_eq_true_eq]
    have hgoal : 0 < turnI (atN ns v) (tN ns ls d) (tN ns ls e) ↔ sV ns ls e < sV ns ls d := by
      unfold hV at hh
      by_cases ud : upB ns ls d = true
      · have ue : upB ns ls e = true := by
          by_cases ue : upB ns ls e = true
          · exact ue
          · rw [if_pos ud, if_neg ue] at hh; omega
        unfold sV
        rw [if_pos ud, if_pos ue]
        have hs := (pD_side hw hd ud (tN ns ls e)).1
        rw [f1] at hs
        rw [← hs, ← pD_to hw he ue, pD_lin ns ls d (zN (atN ns v)) (zN (tN ns ls e)), pD_lin ns ls e (zN (atN ns v)) (zN (tN ns ls e))]
        have p1 := pD_from hw hd ud
        have p2 := pD_from hw he ue
        rw [f1] at p1
        rw [f2] at p2
        have hz := upB_iff.1 ue
        rw [f2] at hz
        have := lt_sign (m := zN (tN ns ls e) - zN (atN ns v)) (a := sD ns ls d) (b := sD ns ls e) (by omega)
        rw [Int.mul_sub] at this
        omega
      · have ue : ¬ upB ns ls e = true := by
          intro ue
          rw [if_neg ud, if_pos ue] at hh; omega
        unfold sV
        rw [if_neg ud, if_neg ue]
        rw [Bool.not_eq_true] at ud ue
        have ud' : upB ns ls (tw d) = true := by rw [up_tw hw hd, ud]; rfl
        have ue' : upB ns ls (tw e) = true := by rw [up_tw hw he, ue]; rfl
        have hs := (pD_side hw (tw_lt hd) ud' (tN ns ls e)).2
        rw [fN_tw, tN_tw, f1, turn_neg] at hs
        have hpe := pD_from hw (tw_lt he) ue'
        rw [fN_tw] at hpe
        have q1 := pD_to hw (tw_lt hd) ud'
        have q2 := pD_to hw (tw_lt he) ue'
        rw [tN_tw, f1] at q1
        rw [tN_tw, f2] at q2
        have l1 := pD_lin ns ls (tw d) (zN (atN ns v)) (zN (tN ns ls e))
        have l2 := pD_lin ns ls (tw e) (zN (atN ns v)) (zN (tN ns ls e))
        have hz := upB_iff.1 ue'
        rw [fN_tw, tN_tw, f2] at hz
        have := lt_sign (m := zN (atN ns v) - zN (tN ns ls e)) (a := sD ns ls (tw d)) (b := sD ns ls (tw e)) (by omega)
        have hmul : (zN (atN ns v) - zN (tN ns ls e)) * (sD ns ls (tw d) - sD ns ls (tw e)) = (zN (tN ns ls e) - zN (atN ns v)) * sD ns ls (tw e) - (zN (tN ns ls e) - zN (atN ns v)) * sD ns ls (tw d) := by grind
        omega
    rw [hgoal]
    omega
  · rw [if_neg (by omega)]
    simp only [Bool.true_and, decide_eq_true_eq]
    omega

theorem bf_total (hw : winB ns ls = true) {d e v : Nat} (hd : d < 2 * ls.length) (he : e < 2 * ls.length) (hv : v < ns.length) (h1 : dF ls d = v) (h2 : dF ls e = v) (hne : d ≠ e) : bfV ns ls d e = true ∨ bfV ns ls e d = true := by
  rw [bfV_iff, bfV_iff]
  by_cases hh : hV ns ls d = hV ns ls e
  · have : sV ns ls d ≠ sV ns ls e := by
      intro hs
      unfold hV at hh
      unfold sV at hs
      by_cases ud : upB ns ls d = true
      · have ue : upB ns ls e = true := by
          by_cases ue : upB ns ls e = true
          · exact ue
          · rw [if_pos ud, if_neg ue] at hh; omega
        rw [if_pos ud, if_pos ue] at hs
        exact hne (slope_ne_up hw hd he ud ue hv h1 h2 hs)
      · have ue : ¬ upB ns ls e = true := by
          intro ue
          rw [if_neg ud, if_pos ue] at hh; omega
        rw [if_neg ud, if_neg ue] at hs
        rw [Bool.not_eq_true] at ud ue
        have := slope_ne_dn hw (tw_lt hd) (tw_lt he) (by rw [up_tw hw hd, ud]; rfl) (by rw [up_tw hw he, ue]; rfl) hv (by rw [dT_tw]; exact h1) (by rw [dT_tw]; exact h2) hs
        exact hne (tw_inj this)
    omega
  · omega

theorem insM_sorted {R : Int → Int → Prop} (lt : Int → Int → Bool) (d : Int) (l : List Int) (hs : l.Pairwise R) (h1 : ∀ x, x ∈ l → (lt d x = true → R d x) ∧ (lt d x = false → R x d)) (h2 : ∀ x y, x ∈ l → y ∈ l → R x y → R y d → R x d) :
    ∀ m, m ≤ l.length → (∀ j, m ≤ j → j < l.length → R d (atZ l j)) → (insM lt d l m).Pairwise R
  | 0, _, h => by
    unfold insM
    rw [List.pairwise_cons]
    refine ⟨fun x hx => ?_, hs⟩
    obtain ⟨j, hj, rfl⟩ := List.getElem_of_mem hx
    rw [atZ_get hj]
    exact h j (by omega) hj
  | m + 1, hm, h => by
    have hmm : atZ l m ∈ l := by rw [← atZ_get (by omega : m < l.length)]; exact List.getElem_mem _
    by_cases e : lt d (atZ l m) = true
    · rw [insM_on _ _ _ _ e]
      refine insM_sorted lt d l hs h1 h2 m (by omega) fun j hj hjl => ?_
      by_cases e2 : j = m
      · subst e2; exact (h1 _ hmm).1 e
      · exact h j (by omega) hjl
    · rw [Bool.not_eq_true] at e
      rw [insM_stop _ _ _ _ e]
      unfold openL
      have hlast := (h1 _ hmm).2 e
      rw [List.pairwise_append, List.pairwise_cons]
      have hsp := hs
      rw [← List.take_append_drop (m + 1) l, List.pairwise_append] at hsp
      have hlow : ∀ x, x ∈ l.take (m + 1) → R x d := by
        intro x hx
        obtain ⟨j, hj, rfl⟩ := List.getElem_of_mem hx
        rw [List.length_take] at hj
        rw [List.getElem_take, atZ_get (by omega : j < l.length)]
        by_cases e2 : j = m
        · subst e2; exact hlast
        · have hjm : atZ l j ∈ l := by rw [← atZ_get (by omega : j < l.length)]; exact List.getElem_mem _
          refine h2 _ _ hjm hmm ?_ hlast
          have := List.pairwise_iff_getElem.1 hs j m (by omega) (by omega) (by omega)
          rwa [atZ_get (by omega : j < l.length), atZ_get (by omega : m < l.length)] at this
      have hhigh : ∀ x, x ∈ l.drop (m + 1) → R d x := by
        intro x hx
        obtain ⟨j, hj, rfl⟩ := List.getElem_of_mem hx
        rw [List.length_drop] at hj
        rw [List.getElem_drop, atZ_get (by omega : m + 1 + j < l.length)]
        exact h _ (by omega) (by omega)
      refine ⟨hsp.1, ⟨hhigh, hsp.2.1⟩, fun x hx y hy => ?_⟩
      rw [List.mem_cons] at hy
      rcases hy with rfl | hy
      · exact hlow x hx
      · exact hsp.2.2 x hx y hy

theorem aro_sorted (hw : winB ns ls = true) {v : Nat} (hv : v < ns.length) : ∀ n, n ≤ 2 * ls.length → (aroL ns ls v n).Pairwise fun x y => bfV ns ls x.toNat y.toNat = true
  | 0, _ => List.Pairwise.nil
  | n + 1, hn => by
    have ih := aro_sorted hw hv n (by omega)
    unfold aroL
    split
    · rename_i hf
      unfold insL
      refine insM_sorted _ _ _ ih (fun x hx => ?_) (fun x y hx hy h1 h2 => ?_) _ (Nat.le_refl _) (fun j h1 h2 => by omega)
      · obtain ⟨d, rfl, hd, hdf⟩ := aroL_mem ns ls v n x hx
        rw [bf_is hw (by omega) (by omega) hv hf hdf, Int.toNat_natCast, Int.toNat_natCast]
        refine ⟨id, fun h => ?_⟩
        rcases bf_total hw (d := n) (e := d) (by omega) (by omega) hv hf hdf (by omega) with h3 | h3
        · rw [h] at h3; cases h3
        · exact h3
      · rw [bfV_iff] at *
        omega
    · exact ih

/-- The next dart of the walk has the same beside it. -/
theorem wD_next (hw : winB ns ls = true) (hc : Circ ns ls c) {d : Nat} (hd : d < 2 * ls.length) : wD ns ls c (nxN ns ls d) = wD ns ls c d := by
  obtain ⟨q, p, r, h1, h2, h3, h4, h5, h6, h7, h8⟩ := step_nat (-1) hw (tw_lt hd) (.inr rfl)
  have hq := nx_step hw hd
  rw [h1] at hq
  have hq : q = nxN ns ls d := Int.ofNat_inj.1 hq
  rw [← hq]
  obtain ⟨⟨v, hv1, hv2, _⟩, _⟩ := node_of hw (tw_lt hd)
  have hqv : dF ls q = v := h3.trans hv1
  have e1 := wD_at hw hc h2 hv2 hqv
  have e2 := wD_at hw hc (tw_lt hd) hv2 hv1
  have e3 := wD_tw hw hc (tw_lt hd)
  rw [tw_tw] at e3
  have hl : roundL ns ls (tw d) = aroL ns ls v (2 * ls.length) := by unfold roundL; rw [hv1]; rfl
  have hs := aro_sorted hw hv2 (2 * ls.length) (Nat.le_refl _)
  rw [← hl] at hs
  have hnd : (roundL ns ls (tw d)).Nodup := by rw [hl]; exact aroL_nodup _ _ _ _
  have hat := fun {j} (hj : j < (roundL ns ls (tw d)).length) => (show ∃ e : Nat, atZ (roundL ns ls (tw d)) j = e ∧ e < 2 * ls.length ∧ dF ls e = v from by
    rw [hl] at hj ⊢
    exact aroL_at hj)
  have hhas : ∀ e, e < 2 * ls.length → dF ls e = v → ∃ j, j < (roundL ns ls (tw d)).length ∧ atZ (roundL ns ls (tw d)) j = e := by
    intro e he hev
    obtain ⟨j, k1, _, k2, _⟩ := round_place (ns := ns) hw he
    have hr : roundL ns ls e = roundL ns ls (tw d) := by unfold roundL; rw [hev, hv1]
    rw [hr] at k1 k2
    exact ⟨j, k1, k2⟩
  have hord : ∀ {i j e f : Nat}, i < (roundL ns ls (tw d)).length → j < (roundL ns ls (tw d)).length → atZ (roundL ns ls (tw d)) i = e → atZ (roundL ns ls (tw d)) j = f → (leV ns ls e f = true ↔ i ≤ j) := by
    intro i j e f hi hj he hf
    have hpw := List.pairwise_iff_getElem.1 hs
    rcases Nat.lt_trichotomy i j with h | h | h
    · have := hpw i j hi hj h
      rw [atZ_get hi, atZ_get hj, he, hf, Int.toNat_natCast, Int.toNat_natCast, bfV_iff] at this
      rw [leV_iff]
      omega
    · subst h
      obtain rfl : e = f := by omega
      rw [leV_iff]
      omega
    · have := hpw j i hj hi h
      rw [atZ_get hi, atZ_get hj, he, hf, Int.toNat_natCast, Int.toNat_natCast, bfV_iff] at this
      rw [leV_iff]
      omega
  generalize hn : (roundL ns ls (tw d)).length = n at *
  by_cases hp0 : p = 0
  · subst hp0
    have hr : r = n - 1 := by
      rw [show (((0 : Nat) : Int) + -1 + n) = ((n - 1 : Nat) : Int) by omega, Int.emod_eq_of_lt (by omega) (by omega)] at h8
      omega
    have a1 : cV ns ls c v (tw d) = c (tw d) := by
      unfold cV
      rw [sumT_one _ (tw_lt hd)]
      · rw [decide_eq_true hv1, (hord h4 h4 h5 h5).2 (Nat.le_refl _)]; rfl
      · intro e he hne
        by_cases hev : dF ls e = v
        · obtain ⟨j, hj, hje⟩ := hhas e he hev
          have : leV ns ls e (tw d) = false := by
            rw [Bool.eq_false_iff]
            intro h
            have := (hord hj h4 hje h5).1 h
            have : j = 0 := by omega
            subst this
            omega
          rw [this]; simp
        · rw [decide_eq_false hev]; simp
    have a2 : cV ns ls c v q = 0 := by
      rw [← hc.div v hv2]
      unfold cV
      refine sumT_congr _ fun e he => ?_
      by_cases hev : dF ls e = v
      · obtain ⟨j, hj, hje⟩ := hhas e he hev
        rw [(hord hj h6 hje h7).2 (by omega)]; simp [hev]
      · simp [hev]
    omega
  · have hr : r = p - 1 := by
      rw [show ((p : Int) + -1 + n) = ((p - 1 : Nat) : Int) + n by omega, Int.add_emod_right, Int.emod_eq_of_lt (by omega) (by omega)] at h8
      omega
    have a1 : cV ns ls c v (tw d) = cV ns ls c v q + c (tw d) := by
      have b1 : sumT (fun e => if e = tw d then c e else 0) (2 * ls.length) = c (tw d) := by
        rw [sumT_one _ (tw_lt hd) (fun i _ h => if_neg h), if_pos rfl]
      rw [← b1]
      unfold cV
      rw [← sumT_add]
      refine sumT_congr _ fun e he => ?_
      by_cases hev : dF ls e = v
      · obtain ⟨j, hj, hje⟩ := hhas e he hev
        have c1 := hord hj h4 hje h5
        have c2 := hord hj h6 hje h7
        by_cases het : e = tw d
        · have : j = p := atZ_inj hnd (by omega) (by omega) (by rw [hje, h5, het])
          have c3 : leV ns ls e q = false := by rw [Bool.eq_false_iff]; intro h; have := c2.1 h; omega
          rw [c1.2 (by omega), c3, if_pos het]
          simp [hev]
        · have hjp : j ≠ p := fun h => het (by subst h; omega)
          have c3 : leV ns ls e (tw d) = leV ns ls e q := by rw [Bool.eq_iff_iff, c1, c2]; omega
          rw [c3, if_neg het]
          simp
      · have het : e ≠ tw d := fun h => hev (by rw [h]; exact hv1)
        simp [hev, het]
    omega

end
end Go.Proofs.YtepacoacalhdcaaGreat

namespace Go.Proofs.YtepacoacalhdcaaGreat
open Go.RowKit
set_option linter.unusedVariables false
set_option linter.unusedSimpArgs false

theorem sumT_list (F : Nat → Int) (n : Nat) : sumT F n = sumZ ((List.range n).map F) := by
  have := sumT_filt (fun _ => true) F n
  rw [List.filter_eq_self.2 fun _ _ => rfl] at this
  rw [this]
  exact sumT_congr n fun i _ => by simp

theorem sumT_perm {π : Nat → Nat} {N : Nat} (F : Nat → Int) (hf : ∀ x, x < N → π x < N) (hi : ∀ x y, x < N → y < N → π x = π y → x = y) : sumT (fun d => F (π d)) N = sumT F N := by
  rw [sumT_list, sumT_list]
  have hp : ((List.range N).map π).Perm (List.range N) := by
    refine (List.perm_ext_iff_of_nodup ?_ List.nodup_range).2 fun a => ?_
    · unfold List.Nodup
      rw [List.pairwise_map]
      refine List.pairwise_lt_range.imp_of_mem fun {x y} hx hy hxy e => ?_
      have := hi x y (List.mem_range.1 hx) (List.mem_range.1 hy) e
      omega
    · rw [List.mem_map, List.mem_range]
      constructor
      · rintro ⟨x, hx, rfl⟩
        exact hf x (List.mem_range.1 hx)
      · intro ha
        obtain ⟨m, h0, _, hm, _⟩ := backAt hf hi ha
        obtain ⟨q, rfl⟩ : ∃ q, m = q + 1 := ⟨m - 1, by omega⟩
        exact ⟨itN π q a, List.mem_range.2 (itN_lt hf ha q), hm⟩
  have := sumZ_perm (hp.map F)
  rw [List.map_map] at this
  exact this

theorem sumT_nonneg {F : Nat → Int} : ∀ n, (∀ i, i < n → 0 ≤ F i) → 0 ≤ sumT F n ∧ ((∃ i, i < n ∧ 0 < F i) → 0 < sumT F n)
  | 0, _ => ⟨Int.le_refl _, fun ⟨i, hi, _⟩ => by omega⟩
  | n + 1, h => by
    obtain ⟨h1, h2⟩ := sumT_nonneg n fun i hi => h i (by omega)
    have h3 := h n (by omega)
    unfold sumT
    refine ⟨by omega, fun ⟨i, hi, hp⟩ => ?_⟩
    by_cases e : i = n
    · subst e; omega
    · have := h2 ⟨i, by omega, hp⟩
      omega

theorem sumT_mul (a : Int) (F : Nat → Int) : ∀ n, sumT (fun i => a * F i) n = a * sumT F n
  | 0 => by simp [sumT]
  | n + 1 => by
    unfold sumT
    rw [sumT_mul a F n, Int.mul_add]

theorem sumT_swap (F : Nat → Nat → Int) (m : Nat) : ∀ n, sumT (fun i => sumT (F i) m) n = sumT (fun j => sumT (fun i => F i j) n) m
  | 0 => (sumT_zero m fun _ _ => rfl).symm
  | n + 1 => by
    show sumT (fun i => sumT (F i) m) n + sumT (F n) m = _
    rw [sumT_swap F m n, ← sumT_add]
    exact sumT_congr _ fun j _ => rfl

theorem min_ex (P : Nat → Bool) (F : Nat → Int) : ∀ n, (∃ d, d < n ∧ P d = true) → ∃ d, d < n ∧ P d = true ∧ ∀ e, e < n → P e = true → F d ≤ F e
  | 0, ⟨d, h, _⟩ => by omega
  | n + 1, h => by
    by_cases hn : ∃ d, d < n ∧ P d = true
    · obtain ⟨d, h1, h2, h3⟩ := min_ex P F n hn
      by_cases hc : P n = true ∧ F n < F d
      · refine ⟨n, by omega, hc.1, fun e he hp => ?_⟩
        by_cases e1 : e = n
        · subst e1; omega
        · have := h3 e (by omega) hp; omega
      · refine ⟨d, by omega, h2, fun e he hp => ?_⟩
        by_cases e1 : e = n
        · subst e1
          have : ¬ F e < F d := fun h => hc ⟨hp, h⟩
          omega
        · exact h3 e (by omega) hp
    · obtain ⟨d, h1, h2⟩ := h
      have e1 : d = n := by
        refine Classical.byContradiction fun hne => hn ⟨d, by omega, h2⟩
      subst e1
      refine ⟨d, by omega, h2, fun e he hp => ?_⟩
      by_cases e1 : e = d
      · subst e1; omega
      · exact absurd ⟨e, by omega, hp⟩ hn

/-- A sum by parts: where all beginnings are 0 or less, and the whole is 0, later ones count more. -/
theorem abel_sum (c Q : Nat → Int) : ∀ (n : Nat) (l : List Nat), l.length ≤ n → l.Nodup → (∀ x y, x ∈ l → y ∈ l → Q x = Q y → x = y) → (∀ g, g ∈ l → sumZ ((l.filter fun k => decide (Q k ≤ Q g)).map c) ≤ 0) → ∀ B, (∀ g, g ∈ l → Q g < B) →
    sumZ (l.map c) * B ≤ sumZ (l.map fun k => c k * Q k) ∧ ((∃ g, g ∈ l ∧ sumZ ((l.filter fun k => decide (Q k ≤ Q g)).map c) < 0) → sumZ (l.map c) * B < sumZ (l.map fun k => c k * Q k))
  | n, [], _, _, _, _, B, _ => by simp [sumZ]
  | 0, x :: t, hn, _, _, _, _, _ => by simp at hn
  | n + 1, x :: t, hn, hnd, hinj, hS, B, hB => by
    generalize hl : x :: t = l at *
    have hmax : ∃ m, m ∈ l ∧ ∀ k, k ∈ l → Q k ≤ Q m := by
      have key : ∀ (l : List Nat), l ≠ [] → ∃ m, m ∈ l ∧ ∀ k, k ∈ l → Q k ≤ Q m := by
        intro l
        induction l with
        | nil => intro h; exact absurd rfl h
        | cons a t ih =>
          intro _
          by_cases ht : t = []
          · subst ht
            exact ⟨a, by simp, fun k hk => by simp at hk; subst hk; omega⟩
          · obtain ⟨m, hm, hmx⟩ := ih ht
            by_cases hc : Q m ≤ Q a
            · exact ⟨a, by simp, fun k hk => by
                rw [List.mem_cons] at hk
                rcases hk with rfl | hk
                · omega
                · have := hmx k hk; omega⟩
            · exact ⟨m, by simp [hm], fun k hk => by
                rw [List.mem_cons] at hk
                rcases hk with rfl | hk
                · omega
                · exact hmx k hk⟩
      exact key l (by rw [← hl]; simp)
    obtain ⟨m, hm, hmx⟩ := hmax
    have hsplit : ∀ F : Nat → Int, sumZ (l.map F) = sumZ ((l.filter fun k => decide (Q k < Q m)).map F) + F m := by
      intro F
      have hp : l.Perm (m :: l.filter fun k => decide (Q k < Q m)) := by
        refine (List.perm_ext_iff_of_nodup hnd ?_).2 fun a => ?_
        · rw [List.nodup_cons]
          refine ⟨fun h => ?_, hnd.filter _⟩
          have := (List.mem_filter.1 h).2
          simp at this
        · rw [List.mem_cons, List.mem_filter]
          constructor
          · intro ha
            by_cases e : Q a < Q m
            · exact .inr ⟨ha, by simp [e]⟩
            · exact .inl (hinj a m ha hm (by have := hmx a ha; omega))
          · rintro (rfl | h)
            · exact hm
            · exact h.1
      rw [sumZ_perm (hp.map F)]
      simp [sumZ]
      omega
    have hlen : (l.filter fun k => decide (Q k < Q m)).length ≤ n := by
      have h1 : (l.filter fun k => decide (Q k < Q m)).length < l.length := by
        refine List.length_filter_lt_length_iff_exists.2 ⟨m, hm, by simp⟩
      omega
    have hff : ∀ g, g ∈ (l.filter fun k => decide (Q k < Q m)) → ((l.filter fun k => decide (Q k < Q m)).filter fun k => decide (Q k ≤ Q g)) = l.filter fun k => decide (Q k ≤ Q g) := by
      intro g hg
      have h1 := (List.mem_filter.1 hg).2
      simp at h1
      rw [List.filter_filter]
      refine List.filter_congr fun k _ => ?_
      rw [Bool.eq_iff_iff]
      simp
      omega
    have ih := abel_sum c Q n (l.filter fun k => decide (Q k < Q m)) hlen (hnd.filter _) (fun a b ha hb => hinj a b (List.mem_filter.1 ha).1 (List.mem_filter.1 hb).1) (fun g hg => by
      rw [hff g hg]
      exact hS g (List.mem_filter.1 hg).1) (Q m) (fun g hg => by
      have := (List.mem_filter.1 hg).2
      simpa using this)
    have hT : sumZ (l.map c) ≤ 0 := by
      have := hS m hm
      rwa [List.filter_eq_self.2 fun k hk => by simp [hmx k hk]] at this
    have hBm := hB m hm
    have e1 := hsplit c
    have e2 := hsplit fun k => c k * Q k
    have e3 : sumZ (l.map c) * Q m = sumZ ((l.filter fun k => decide (Q k < Q m)).map c) * Q m + c m * Q m := by rw [e1, Int.add_mul]
    have e4 : sumZ (l.map c) * B ≤ sumZ (l.map c) * Q m := Int.mul_le_mul_of_nonpos_left hT (by omega)
    refine ⟨by have := ih.1; omega, ?_⟩
    rintro ⟨g, hg, hlt⟩
    by_cases hgm : Q g < Q m
    · have hgl : g ∈ (l.filter fun k => decide (Q k < Q m)) := List.mem_filter.2 ⟨hg, by simp [hgm]⟩
      have := ih.2 ⟨g, hgl, by rw [hff g hgl]; exact hlt⟩
      omega
    · obtain rfl : g = m := hinj g m hg hm (by have := hmx g hg; omega)
      rw [List.filter_eq_self.2 fun k hk => by simp [hmx k hk]] at hlt
      have e5 : sumZ (l.map c) * B < sumZ (l.map c) * Q g := Int.mul_lt_mul_of_neg_left hBm hlt
      have := ih.1
      omega

section

variable {ns ls : List Nd}

theorem at_face (hh : wholeB ns ls = true) {d : Nat} (hd : d < 2 * ls.length) : ∃ k : Nat, atZ (atW ns ls) d = k ∧ k < (wF ns ls).length := by
  refine ⟨_, atW_at hd, ?_⟩
  rw [show wF ns ls = facesL ns ls from if_pos hh]
  exact (atW_face (whole_win hh).1 hd).2

theorem at_next (hh : wholeB ns ls = true) {d : Nat} (hd : d < 2 * ls.length) : atZ (atW ns ls) (nxN ns ls d) = atZ (atW ns ls) d := by
  obtain ⟨hw, -, -, -⟩ := whole_win hh
  obtain ⟨k, hk, hkl⟩ := at_face hh hd
  have hp := row_perm hkl
  obtain ⟨_, d0, hd0, e0, _⟩ := wF_row hkl
  have h1 : (d : Int) ∈ atR (wF ns ls) k := hp.mem_iff.2 (List.mem_map.2 ⟨d, List.mem_filter.2 ⟨List.mem_range.2 hd, by simp [hk]⟩, rfl⟩)
  rw [e0, walk_mem hw hd0] at h1
  obtain ⟨j, hj⟩ := h1
  have h2 : ((nxN ns ls d : Nat) : Int) ∈ atR (wF ns ls) k := by
    rw [e0, walk_mem hw hd0]
    exact ⟨j + 1, by rw [Int.ofNat_inj.1 hj]; rfl⟩
  obtain ⟨x, hx, hxe⟩ := List.mem_map.1 (hp.mem_iff.1 h2)
  have := (List.mem_filter.1 hx).2
  rw [Int.ofNat_inj.1 hxe] at this
  simp at this
  rw [this, hk]

/-- One on the darts of face f, minus one on their twins. -/
noncomputable def cF (ns ls : List Nd) (f : Int) (d : Nat) : Int := (if atZ (atW ns ls) d = f then 1 else 0) - (if atZ (atW ns ls) (tw d) = f then 1 else 0)

theorem circ_face (hh : wholeB ns ls = true) (f : Int) : Circ ns ls (cF ns ls f) := by
  obtain ⟨hw, -, -, -⟩ := whole_win hh
  refine ⟨fun d hd => by unfold cF; rw [tw_tw]; omega, fun v hv => ?_⟩
  have hlt : ∀ x, x < 2 * ls.length → nxN ns ls (tw x) < 2 * ls.length := fun x hx => nx_lt hw _ (tw_lt hx)
  have hinj : ∀ x y, x < 2 * ls.length → y < 2 * ls.length → nxN ns ls (tw x) = nxN ns ls (tw y) → x = y := fun x y hx hy h => tw_inj (nx_inj hw _ _ (tw_lt hx) (tw_lt hy) h)
  have h1 := sumT_perm (fun d => if dF ls d = v then (if atZ (atW ns ls) d = f then (1 : Int) else 0) else 0) hlt hinj
  have h2 : sumT (fun d => if dF ls d = v then cF ns ls f d else 0) (2 * ls.length) = sumT (fun d => if dF ls d = v then (if atZ (atW ns ls) d = f then (1 : Int) else 0) else 0) (2 * ls.length) + sumT (fun d => -(if dF ls (nxN ns ls (tw d)) = v then (if atZ (atW ns ls) (nxN ns ls (tw d)) = f then (1 : Int) else 0) else 0)) (2 * ls.length) := by
    rw [← sumT_add]
    refine sumT_congr _ fun d hd => ?_
    rw [nx_from hw (tw_lt hd), dT_tw, at_next hh (tw_lt hd)]
    unfold cF
    split <;> omega
  rw [h2, sumT_neg, h1]
  omega

/-- What does not change along walks and across leads is the same everywhere. -/
theorem face_conn (hh : wholeB ns ls = true) (Φ : Nat → Int) (h1 : ∀ d, d < 2 * ls.length → Φ (nxN ns ls d) = Φ d) (h2 : ∀ d, d < 2 * ls.length → Φ (tw d) = Φ d) {d e : Nat} (hd : d < 2 * ls.length) (he : e < 2 * ls.length) : Φ d = Φ e := by
  obtain ⟨hw, -, -, -⟩ := whole_win hh
  have hrot : ∀ x, x < 2 * ls.length → ∀ p, p < (roundL ns ls x).length → ∀ y : Nat, atZ (roundL ns ls x) p = y → y < 2 * ls.length → dF ls y = dF ls x → ∀ z : Nat, atZ (roundL ns ls x) 0 = z → Φ y = Φ z := by
    intro x hx p
    induction p with
    | zero =>
      intro hp y hy _ _ z hz
      obtain rfl : y = z := by omega
      rfl
    | succ p ih =>
      intro hp y hy hyl hyf z hz
      obtain ⟨q, p', r, k1, k2, k3, k4, k5, k6, k7, k8⟩ := step_nat (-1) hw hyl (.inr rfl)
      have hr : roundL ns ls y = roundL ns ls x := by unfold roundL; rw [hyf]
      rw [hr] at k4 k5 k6 k7 k8
      have hnd : (roundL ns ls x).Nodup := by unfold roundL; exact aroL_nodup _ _ _ _
      have hpp : p' = p + 1 := atZ_inj hnd k4 hp (k5.trans hy.symm)
      subst hpp
      have hrp : r = p := by
        rw [show (((p + 1 : Nat) : Int) + -1 + (roundL ns ls x).length) = ((p : Nat) : Int) + (roundL ns ls x).length by omega, Int.add_emod_right, Int.emod_eq_of_lt (by omega) (by omega)] at k8
        omega
      subst hrp
      have hq := nx_step hw (tw_lt hyl)
      rw [tw_tw, k1] at hq
      have hq := Int.ofNat_inj.1 hq
      have h3 := ih k6 q k7 k2 (k3.trans hyf) z hz
      rw [← h3, hq, h1 _ (tw_lt hyl), h2 _ hyl]
  have hsame : ∀ x y, x < 2 * ls.length → y < 2 * ls.length → dF ls x = dF ls y → Φ x = Φ y := by
    intro x y hx hy hf
    obtain ⟨p, p1, _, p2, _⟩ := round_place (ns := ns) hw hx
    obtain ⟨p', p3, _, p4, _⟩ := round_place (ns := ns) hw hy
    have hr : roundL ns ls y = roundL ns ls x := by unfold roundL; rw [hf]
    rw [hr] at p3 p4
    obtain ⟨a, b, q1, q2, q3, q4, _⟩ := dart_nat (ns := ns) hw hx
    have h0 : ∃ z : Nat, atZ (roundL ns ls x) 0 = z := by
      have hl0 : 0 < (roundL ns ls x).length := by omega
      unfold roundL at hl0 ⊢
      rw [q1] at hl0 ⊢
      obtain ⟨z, hz, _⟩ := aroL_at hl0
      exact ⟨z, hz⟩
    obtain ⟨z, hz⟩ := h0
    rw [hrot x hx p p1 x p2 hx rfl z hz, hrot x hx p' p3 y p4 hy hf.symm z hz]
  have hinv := lab_inv ls (fun v => ∀ x, x < 2 * ls.length → dF ls x = v → Φ x = Φ d) ls.length fun j hj => by
    obtain ⟨p, q, ep, hpq, hp, hq, _⟩ := leadOkB_spec (((winB_iff ns ls).1 hw).2.2 j hj).1
    have e1 : dF ls (2 * j) = p := by unfold dF; rw [if_neg (by omega), show 2 * j / 2 = j by omega, ep]
    have e2 : dF ls (tw (2 * j)) = q := by rw [dF_tw]; unfold dT; rw [if_neg (by omega), show 2 * j / 2 = j by omega, ep]
    have ht := h2 (2 * j) (by omega)
    rw [ep]
    simp only [Int.toNat_natCast]
    constructor
    · intro h x hx hxf
      rw [hsame x (tw (2 * j)) hx (tw_lt (by omega)) (hxf.trans e2.symm), ht]
      exact h _ (by omega) e1
    · intro h x hx hxf
      rw [hsame x (2 * j) hx (by omega) (hxf.trans e1.symm), ← ht]
      exact h _ (tw_lt (by omega)) e2
  obtain ⟨a, _, a1, _, a3, _, _⟩ := dart_nat (ns := ns) hw hd
  obtain ⟨b, _, b1, _, b3, _, _⟩ := dart_nat (ns := ns) hw he
  have h3 : ∀ x, x < 2 * ls.length → dF ls x = b → Φ x = Φ d := by
    rw [← hinv b, whole_lab hh b3, ← whole_lab hh a3, hinv a]
    exact fun x hx hf => hsame x d hx hd (hf.trans a1.symm)
  exact (h3 e he b1).symm

/-- A dart with nothing to its left. -/
theorem far_dart (hw : winB ns ls = true) (h0 : 0 < ls.length) : ∃ d, d < 2 * ls.length ∧ ∀ c, wD ns ls c d = 0 := by
  have hex : ∃ d, d < 2 * ls.length ∧ upB ns ls d = true := by
    by_cases h : upB ns ls 0 = true
    · exact ⟨0, by omega, h⟩
    · exact ⟨tw 0, tw_lt (by omega), by rw [up_tw hw (by omega)]; simpa using h⟩
  obtain ⟨g, g1, g2, g3⟩ := min_ex (upB ns ls) (fun d => zN (fN ns ls d)) _ hex
  obtain ⟨d, d1, d2, d3⟩ := min_ex (fun d => upB ns ls d && decide (zN (fN ns ls d) = zN (fN ns ls g))) (fun d => qD ns ls d (zN (fN ns ls g))) _ ⟨g, g1, by simp [g2]⟩
  simp only [Bool.and_eq_true, decide_eq_true_eq] at d2
  refine ⟨d, d1, fun c => ?_⟩
  unfold wD wT
  rw [if_pos d2.1, d2.2]
  refine uS_none fun k hk hu => ?_
  rw [Bool.eq_false_iff]
  intro h
  simp only [Bool.and_eq_true, decide_eq_true_eq, spB_iff] at h
  have h1 := g3 k hk hu
  have h2 := d3 k hk (by simp [hu]; omega)
  omega

theorem w_face (hh : wholeB ns ls = true) : ∃ o : Nat, o < (wF ns ls).length ∧ ∀ (f : Int) d, d < 2 * ls.length → wD ns ls (cF ns ls f) d = (if (o : Int) = f then 1 else 0) - (if atZ (atW ns ls) d = f then 1 else 0) := by
  obtain ⟨hw, h0, -, -⟩ := whole_win hh
  obtain ⟨d0, hd0, hz⟩ := far_dart hw h0
  obtain ⟨o, ho, hol⟩ := at_face hh hd0
  refine ⟨o, hol, fun f d hd => ?_⟩
  have hc := circ_face hh f
  have hconst := face_conn hh (fun x => wD ns ls (cF ns ls f) x + (if atZ (atW ns ls) x = f then 1 else 0)) (fun x hx => by
    show wD ns ls (cF ns ls f) (nxN ns ls x) + _ = _
    rw [wD_next hw hc hx, at_next hh hx]) (fun x hx => by
    show wD ns ls (cF ns ls f) (tw x) + _ = wD ns ls (cF ns ls f) x + _
    rw [wD_tw hw hc hx]
    unfold cF
    omega) hd hd0
  have hconst : wD ns ls (cF ns ls f) d + (if atZ (atW ns ls) d = f then 1 else 0) = wD ns ls (cF ns ls f) d0 + (if atZ (atW ns ls) d0 = f then 1 else 0) := hconst
  rw [hz, ho] at hconst
  omega
/-! ### areas -/

def arD (ns ls : List Nd) (d : Nat) : Int := ((fN ns ls d).x + (tN ns ls d).x) * (zN (tN ns ls d) - zN (fN ns ls d))

theorem sum_next (hh : wholeB ns ls = true) (f : Int) (F : Nd → Int) : sumT (fun d => if atZ (atW ns ls) d = f then F (tN ns ls d) else 0) (2 * ls.length) = sumT (fun d => if atZ (atW ns ls) d = f then F (fN ns ls d) else 0) (2 * ls.length) := by
  obtain ⟨hw, -, -, -⟩ := whole_win hh
  rw [← sumT_perm (fun d => if atZ (atW ns ls) d = f then F (fN ns ls d) else 0) (nx_lt hw) (nx_inj hw)]
  refine sumT_congr _ fun d hd => ?_
  rw [at_next hh hd]
  have : fN ns ls (nxN ns ls d) = tN ns ls d := by unfold fN tN; rw [nx_from hw hd]
  rw [this]

theorem cross_ar (ns ls : List Nd) (d : Nat) : 21 * crossD ns ls d = arD ns ls d + (fN ns ls d).x * zN (fN ns ls d) - (tN ns ls d).x * zN (tN ns ls d) := by
  show 21 * ((fN ns ls d).x * (tN ns ls d).y - (fN ns ls d).y * (tN ns ls d).x) = _
  unfold arD zN
  grind

theorem area_up (hh : wholeB ns ls = true) {f : Nat} (hf : f < (wF ns ls).length) : 21 * areaR ns ls (atR (wF ns ls) f) = sumT (fun d => if upB ns ls d = true then cF ns ls f d * arD ns ls d else 0) (2 * ls.length) := by
  obtain ⟨hw, -, -, -⟩ := whole_win hh
  rw [areaR_sum hf, sumT_filt, ← sumT_mul]
  have e1 : sumT (fun d => 21 * (if (atZ (atW ns ls) d == (f : Int)) = true then crossD ns ls d else 0)) (2 * ls.length) = sumT (fun d => if atZ (atW ns ls) d = f then arD ns ls d else 0) (2 * ls.length) + (sumT (fun d => if atZ (atW ns ls) d = f then (fN ns ls d).x * zN (fN ns ls d) else 0) (2 * ls.length) + sumT (fun d => -(if atZ (atW ns ls) d = f then (tN ns ls d).x * zN (tN ns ls d) else 0)) (2 * ls.length)) := by
    rw [← sumT_add, ← sumT_add]
    refine sumT_congr _ fun d hd => ?_
    have := cross_ar ns ls d
    by_cases h : atZ (atW ns ls) d = f
    · simp [h]; omega
    · simp [h]
  rw [e1, sumT_neg, sum_next hh f fun n => n.x * zN n]
  have e2 : sumT (fun d => if atZ (atW ns ls) d = f then arD ns ls d else 0) (2 * ls.length) = sumT (fun d => if upB ns ls d = true then (if atZ (atW ns ls) d = f then arD ns ls d else 0) else 0) (2 * ls.length) + sumT (fun d => if upB ns ls d = true then 0 else (if atZ (atW ns ls) d = f then arD ns ls d else 0)) (2 * ls.length) := by
    rw [← sumT_add]
    refine sumT_congr _ fun d hd => ?_
    by_cases h : upB ns ls d = true
    · rw [if_pos h, if_pos h]; omega
    · rw [if_neg h, if_neg h]; omega
  have e3 : sumT (fun d => if upB ns ls d = true then 0 else (if atZ (atW ns ls) d = f then arD ns ls d else 0)) (2 * ls.length) = sumT (fun d => if upB ns ls d = true then -(if atZ (atW ns ls) (tw d) = f then arD ns ls d else 0) else 0) (2 * ls.length) := by
    rw [← sumT_tw]
    refine sumT_congr _ fun d hd => ?_
    rw [up_tw hw hd]
    have ha : arD ns ls (tw d) = -arD ns ls d := by
      unfold arD
      rw [fN_tw, tN_tw]
      grind
    cases upB ns ls d
    · simp
    · simp only [Bool.not_true, Bool.false_eq_true, if_false, if_true, ha]
      split <;> omega
  have e4 : sumT (fun d => if upB ns ls d = true then cF ns ls f d * arD ns ls d else 0) (2 * ls.length) = sumT (fun d => if upB ns ls d = true then (if atZ (atW ns ls) d = f then arD ns ls d else 0) else 0) (2 * ls.length) + sumT (fun d => if upB ns ls d = true then -(if atZ (atW ns ls) (tw d) = f then arD ns ls d else 0) else 0) (2 * ls.length) := by
    rw [← sumT_add]
    refine sumT_congr _ fun d hd => ?_
    by_cases h : upB ns ls d = true
    · rw [if_pos h, if_pos h, if_pos h]
      unfold cF
      by_cases h1 : atZ (atW ns ls) d = f <;> by_cases h2 : atZ (atW ns ls) (tw d) = f
      · simp [h1, h2]
        omega
      · simp [h1, h2]
      · simp [h1, h2]
      · simp [h1, h2]
    · rw [if_neg h, if_neg h, if_neg h]; rfl
  omega

theorem lin_sum (P : Int → Int) (s : Int) (hP : ∀ t : Int, P (t + 1) = P t + s) (a b : Nat) (hab : a ≤ b) : ∀ n : Nat, sumT (fun t => if a ≤ t ∧ t < b then P t + P (t + 1) else 0) n = if n ≤ a then 0 else if n ≤ b then ((n : Int) - a) * (P a + P n) else ((b : Int) - a) * (P a + P b)
  | 0 => by simp [sumT]
  | n + 1 => by
    have hlin : ∀ m : Nat, P ((a + m : Nat) : Int) = P a + m * s := by
      intro m
      induction m with
      | zero => simp
      | succ m ih =>
        rw [show ((a + (m + 1) : Nat) : Int) = ((a + m : Nat) : Int) + 1 by omega, hP, ih, show ((m + 1 : Nat) : Int) = (m : Int) + 1 by omega, Int.add_mul]
        omega
    unfold sumT
    rw [lin_sum P s hP a b hab n]
    by_cases h1 : n + 1 ≤ a
    · rw [if_pos (by omega), if_neg (by omega), if_pos h1]; rfl
    · rw [if_neg h1]
      by_cases h2 : n + 1 ≤ b
      · rw [if_pos h2, if_pos (by omega : a ≤ n ∧ n < b)]
        obtain ⟨m, rfl⟩ : ∃ m, n = a + m := ⟨n - a, by omega⟩
        have p1 := hlin m
        have p2 := hlin (m + 1)
        rw [show ((a + (m + 1) : Nat) : Int) = ((a + m : Nat) : Int) + 1 by omega] at p2
        rw [show ((a + m + 1 : Nat) : Int) = ((a + m : Nat) : Int) + 1 by omega, p2, p1, show ((a + m : Nat) : Int) + 1 - a = (m : Int) + 1 by omega, show ((a + m : Nat) : Int) - a = (m : Int) by omega, show ((m + 1 : Nat) : Int) = (m : Int) + 1 by omega]
        by_cases h3 : a + m ≤ a
        · obtain rfl : m = 0 := by omega
          rw [if_pos h3]
          grind
        · rw [if_neg h3, if_pos (by omega)]
          grind
      · rw [if_neg h2, if_neg (by omega : ¬ (a ≤ n ∧ n < b))]
        by_cases h3 : n ≤ a
        · obtain rfl : n = a := by omega
          obtain rfl : n = b := by omega
          rw [if_pos h3]
          simp
        · rw [if_neg h3]
          by_cases h4 : n ≤ b
          · obtain rfl : n = b := by omega
            rw [if_pos h4]
            omega
          · rw [if_neg h4]
            omega

theorem zN_range {n : Nd} (h : okB n = true) : 0 ≤ zN n ∧ zN n ≤ 440 := by
  rw [okB_iff] at h
  unfold zN
  omega

theorem ar_strips (hw : winB ns ls = true) {d : Nat} (hd : d < 2 * ls.length) (hu : upB ns ls d = true) : mM ns ls * arD ns ls d = sumT (fun t => if spB ns ls d t = true then qD ns ls d t else 0) 441 := by
  obtain ⟨o1, o2, _⟩ := dart_ok hw hd
  have r1 := zN_range o1
  have r2 := zN_range o2
  have hz := upB_iff.1 hu
  obtain ⟨a, ha⟩ : ∃ a : Nat, zN (fN ns ls d) = a := ⟨(zN (fN ns ls d)).toNat, by omega⟩
  obtain ⟨b, hb⟩ : ∃ b : Nat, zN (tN ns ls d) = b := ⟨(zN (tN ns ls d)).toNat, by omega⟩
  have h := lin_sum (pD ns ls d) (sD ns ls d) (fun t => by rw [pD_lin ns ls d t (t + 1), show t + 1 - t = 1 by omega, Int.one_mul]) a b (by omega) 441
  rw [if_neg (by omega), if_neg (by omega)] at h
  have p1 := pD_from hw hd hu
  have p2 := pD_to hw hd hu
  rw [ha] at p1
  rw [hb] at p2
  rw [p1, p2] at h
  have e : sumT (fun t => if spB ns ls d t = true then qD ns ls d t else 0) 441 = sumT (fun t => if a ≤ t ∧ t < b then pD ns ls d t + pD ns ls d (t + 1) else 0) 441 := sumT_congr _ fun t _ => by
    by_cases ht : a ≤ t ∧ t < b
    · rw [if_pos ht, if_pos (spB_iff.2 (by omega))]; rfl
    · rw [if_neg ht, if_neg (fun h => ht (by rw [spB_iff] at h; omega))]
  rw [e, h]
  unfold arD
  rw [ha, hb]
  grind

/-- As much goes up through each height as down. -/
theorem level_zero (hw : winB ns ls = true) {c : Nat → Int} (hc : Circ ns ls c) : ∀ n : Nat, uS ns ls c (fun k => spB ns ls k ((n : Int) - 1)) = 0
  | 0 => uS_none fun d hd hu => by
    have := zN_range (dart_ok hw hd).1
    rw [Bool.eq_false_iff]
    intro h
    rw [spB_iff] at h
    omega
  | n + 1 => by
    have ih := level_zero hw hc n
    rw [show ((n + 1 : Nat) : Int) - 1 = (n : Int) by omega]
    have e1 : uS ns ls c (fun k => spB ns ls k n) = uS ns ls c (fun k => spB ns ls k n && spB ns ls k ((n : Int) - 1)) + uS ns ls c (fun k => decide (zN (fN ns ls k) = n)) := by
      refine uS_split3 fun d hd hu => ?_
      rw [upB_iff] at hu
      unfold spB
      constructor
      · rw [Bool.eq_iff_iff]; simp; omega
      · rw [Bool.eq_false_iff]; simp; omega
    have e2 : uS ns ls c (fun k => spB ns ls k ((n : Int) - 1)) = uS ns ls c (fun k => spB ns ls k n && spB ns ls k ((n : Int) - 1)) + uS ns ls c (fun k => decide (zN (tN ns ls k) = n)) := by
      refine uS_split3 fun d hd hu => ?_
      rw [upB_iff] at hu
      unfold spB
      constructor
      · rw [Bool.eq_iff_iff]; simp; omega
      · rw [Bool.eq_false_iff]; simp; omega
    have e3 : uS ns ls c (fun k => decide (zN (fN ns ls k) = n)) = uS ns ls c (fun k => decide (zN (tN ns ls k) = n)) := by
      by_cases hv : ∃ v : Nat, v < ns.length ∧ zN (atN ns v) = n
      · obtain ⟨v, hvl, hz⟩ := hv
        have a1 : uS ns ls c (fun k => decide (zN (fN ns ls k) = n)) = uS ns ls c (fun k => decide (dF ls k = v)) := uS_congr fun d hd hu => by
          rw [decide_eq_decide, from_node hw hd hvl, hz]
        have a2 : uS ns ls c (fun k => decide (zN (tN ns ls k) = n)) = uS ns ls c (fun k => decide (dT ls k = v)) := uS_congr fun d hd hu => by
          rw [decide_eq_decide, to_node hw hd hvl, hz]
        rw [a1, a2]
        exact div_up hw hc hvl
      · rw [uS_none (fun d hd hu => ?_), uS_none (fun d hd hu => ?_)]
        · obtain ⟨_, v, h3, h4, h5⟩ := node_of hw hd
          exact decide_eq_false (fun h => hv ⟨v, h4, by rw [← h5]; exact h⟩)
        · obtain ⟨⟨v, h3, h4, h5⟩, _⟩ := node_of hw hd
          exact decide_eq_false (fun h => hv ⟨v, h4, by rw [← h5]; exact h⟩)
    omega

theorem uS_list (c : Nat → Int) (P : Nat → Bool) : uS ns ls c P = sumZ (((List.range (2 * ls.length)).filter fun d => upB ns ls d && P d).map c) := (sumT_filt _ _ _).symm

/-- Only the wall around has an area of 0 or less. -/
theorem inner_pos (hh : wholeB ns ls = true) {k : Nat} (hk : k < (wF ns ls).length) (hne : (k : Int) ≠ outW ns ls) : 0 < areaR ns ls (atR (wF ns ls) k) := by
  obtain ⟨hw, h0, -, -⟩ := whole_win hh
  obtain ⟨o, hol, hW⟩ := w_face hh
  have key : ∀ f : Nat, f < (wF ns ls).length → f ≠ o → 0 < areaR ns ls (atR (wF ns ls) f) := by
    intro f hf hfo
    have hc := circ_face hh (f : Int)
    have hM : 0 < mM ns ls := mulL_pos hw ls.length (Nat.le_refl _)
    have hS : ∀ g, g < 2 * ls.length → upB ns ls g = true → ∀ t : Int, spB ns ls g t = true → sumZ (((((List.range (2 * ls.length)).filter fun d => upB ns ls d && spB ns ls d t)).filter fun d => decide (qD ns ls d t ≤ qD ns ls g t)).map (cF ns ls f)) = -(if atZ (atW ns ls) (tw g) = f then 1 else 0) := by
      intro g hg hu t hs
      have e1 : sumZ (((((List.range (2 * ls.length)).filter fun d => upB ns ls d && spB ns ls d t)).filter fun d => decide (qD ns ls d t ≤ qD ns ls g t)).map (cF ns ls f)) = uS ns ls (cF ns ls f) (fun d => spB ns ls d t && decide (qD ns ls d t ≤ qD ns ls g t)) := by
        rw [uS_list, List.filter_filter]
        congr 2
        refine List.filter_congr fun d _ => ?_
        cases upB ns ls d <;> cases spB ns ls d t <;> simp
      have e2 : uS ns ls (cF ns ls f) (fun d => spB ns ls d t && decide (qD ns ls d t ≤ qD ns ls g t)) = uS ns ls (cF ns ls f) (fun d => spB ns ls d t && decide (qD ns ls d t < qD ns ls g t)) + uS ns ls (cF ns ls f) (fun d => decide (d = g)) := by
        refine uS_split3 fun d hd ud => ?_
        by_cases hdg : d = g
        · subst hdg
          rw [hs]; simp
        · rw [decide_eq_false hdg]
          by_cases hsd : spB ns ls d t = true
          · have k1 := spB_iff.1 hs
            have k2 := spB_iff.1 hsd
            have := q_ne hw hd hg ud hu hdg k2.1 k1.1 k2.2 k1.2
            rw [hsd]
            constructor
            · rw [Bool.eq_iff_iff]; simp; omega
            · simp
          · rw [Bool.not_eq_true] at hsd
            rw [hsd]; simp
      have e3 : uS ns ls (cF ns ls f) (fun d => spB ns ls d t && decide (qD ns ls d t < qD ns ls g t)) = wD ns ls (cF ns ls f) g := by
        have := wT_same hw hc hg hu hs
        unfold wD
        rw [if_pos hu, ← this]
        rfl
      rw [e1, e2, uS_one hg hu, e3, ← wD_tw hw hc hg, hW f _ (tw_lt hg), if_neg (by omega)]
      omega
    have hdown : ∃ g t, g < 2 * ls.length ∧ upB ns ls g = true ∧ t < 441 ∧ spB ns ls g (t : Nat) = true ∧ atZ (atW ns ls) (tw g) = f := by
      have hdz : sumT (fun d => if atZ (atW ns ls) d = f then dzN ns ls d else 0) (2 * ls.length) = 0 := by
        have e1 := sum_next hh (f : Int) zN
        have e2 : sumT (fun d => if atZ (atW ns ls) d = f then dzN ns ls d else 0) (2 * ls.length) = sumT (fun d => if atZ (atW ns ls) d = f then zN (tN ns ls d) else 0) (2 * ls.length) + sumT (fun d => -(if atZ (atW ns ls) d = f then zN (fN ns ls d) else 0)) (2 * ls.length) := by
          rw [← sumT_add]
          refine sumT_congr _ fun d hd => ?_
          unfold dzN
          split <;> omega
        rw [e2, sumT_neg, e1]
        omega
      have hex : ∃ d, d < 2 * ls.length ∧ atZ (atW ns ls) d = f ∧ upB ns ls d = false := by
        refine Classical.byContradiction fun hno => ?_
        have hall : ∀ d, d < 2 * ls.length → atZ (atW ns ls) d = f → upB ns ls d = true := by
          intro d hd h
          cases e : upB ns ls d
          · exact absurd ⟨d, hd, h, e⟩ hno
          · rfl
        obtain ⟨_, r0⟩ := row_len hf
        have hp := (row_perm hf).length_eq
        have hx : atZ (atR (wF ns ls) f) 0 ∈ atR (wF ns ls) f := by rw [← atZ_get r0]; exact List.getElem_mem r0
        obtain ⟨d, hd, hde⟩ := List.mem_map.1 ((row_perm hf).mem_iff.1 hx)
        obtain ⟨hd1, hd2⟩ := List.mem_filter.1 hd
        rw [List.mem_range] at hd1
        simp at hd2
        have := (sumT_nonneg (F := fun d => if atZ (atW ns ls) d = f then dzN ns ls d else 0) (2 * ls.length) (fun i hi => by
          show 0 ≤ (if atZ (atW ns ls) i = f then dzN ns ls i else 0)
          split
          · rename_i h
            have := hall i hi h
            unfold upB at this
            rw [decide_eq_true_eq] at this
            omega
          · omega)).2 ⟨d, hd1, by
          show 0 < (if atZ (atW ns ls) d = f then dzN ns ls d else 0)
          rw [if_pos hd2]
          have := hall d hd1 hd2
          unfold upB at this
          rwa [decide_eq_true_eq] at this⟩
        omega
      obtain ⟨d, hd, hdf, hdu⟩ := hex
      have hu : upB ns ls (tw d) = true := by rw [up_tw hw hd, hdu]; rfl
      have hz := upB_iff.1 hu
      have r1 := zN_range (dart_ok hw (tw_lt hd)).1
      have r2 := zN_range (dart_ok hw (tw_lt hd)).2.1
      refine ⟨tw d, (zN (fN ns ls (tw d))).toNat, tw_lt hd, hu, by omega, spB_iff.2 (by omega), by rw [tw_tw]; exact hdf⟩
    have hE : ∀ t : Nat, 0 ≤ sumT (fun d => if (upB ns ls d && spB ns ls d t) = true then cF ns ls f d * qD ns ls d t else 0) (2 * ls.length) ∧ ((∃ g, g < 2 * ls.length ∧ upB ns ls g = true ∧ spB ns ls g t = true ∧ atZ (atW ns ls) (tw g) = f) → 0 < sumT (fun d => if (upB ns ls d && spB ns ls d t) = true then cF ns ls f d * qD ns ls d t else 0) (2 * ls.length)) := by
      intro t
      have hl : ∀ g, g ∈ ((List.range (2 * ls.length)).filter fun d => upB ns ls d && spB ns ls d t) ↔ g < 2 * ls.length ∧ upB ns ls g = true ∧ spB ns ls g t = true := by
        intro g
        rw [List.mem_filter, List.mem_range, Bool.and_eq_true]
      have htot : sumZ ((((List.range (2 * ls.length)).filter fun d => upB ns ls d && spB ns ls d t)).map (cF ns ls f)) = 0 := by
        have := level_zero hw hc (t + 1)
        rw [show ((t + 1 : Nat) : Int) - 1 = (t : Int) by omega, uS_list] at this
        exact this
      obtain ⟨B, hB⟩ : ∃ B : Int, ∀ g, g ∈ ((List.range (2 * ls.length)).filter fun d => upB ns ls d && spB ns ls d t) → qD ns ls g t < B := by
        have key : ∀ l : List Nat, ∃ B : Int, ∀ g, g ∈ l → qD ns ls g t < B := by
          intro l
          induction l with
          | nil => exact ⟨0, fun g h => by simp at h⟩
          | cons a l ih =>
            obtain ⟨B, hB⟩ := ih
            refine ⟨max B (qD ns ls a t + 1), fun g hg => ?_⟩
            rw [List.mem_cons] at hg
            rcases hg with rfl | hg
            · omega
            · have := hB g hg; omega
        exact key _
      have ha := abel_sum (cF ns ls f) (fun d => qD ns ls d t) _ ((List.range (2 * ls.length)).filter fun d => upB ns ls d && spB ns ls d t) (Nat.le_refl _) (List.nodup_range.filter _) (fun x y hx hy hq => by
        obtain ⟨x1, x2, x3⟩ := (hl x).1 hx
        obtain ⟨y1, y2, y3⟩ := (hl y).1 hy
        rw [spB_iff] at x3 y3
        refine Classical.byContradiction fun hxy => ?_
        exact q_ne hw x1 y1 x2 y2 hxy x3.1 y3.1 x3.2 y3.2 hq) (fun g hg => by
        obtain ⟨x1, x2, x3⟩ := (hl g).1 hg
        rw [hS g x1 x2 t x3]
        split <;> omega) B hB
      rw [htot, Int.zero_mul, sumT_filt] at ha
      refine ⟨ha.1, fun ⟨g, g1, g2, g3, g4⟩ => ha.2 ⟨g, (hl g).2 ⟨g1, g2, g3⟩, ?_⟩⟩
      rw [hS g g1 g2 t g3, if_pos g4]
      omega
    have hfin : mM ns ls * (21 * areaR ns ls (atR (wF ns ls) f)) = sumT (fun t => sumT (fun d => if (upB ns ls d && spB ns ls d t) = true then cF ns ls f d * qD ns ls d t else 0) (2 * ls.length)) 441 := by
      rw [area_up hh hf, ← sumT_mul, ← sumT_swap]
      refine sumT_congr _ fun d hd => ?_
      by_cases hu : upB ns ls d = true
      · rw [if_pos hu]
        have := ar_strips hw hd hu
        rw [show mM ns ls * (cF ns ls f d * arD ns ls d) = cF ns ls f d * (mM ns ls * arD ns ls d) by grind, this, ← sumT_mul]
        refine sumT_congr _ fun t _ => ?_
        rw [hu]
        cases spB ns ls d t <;> simp
      · rw [if_neg hu, sumT_zero]
        · simp
        · intro t _
          rw [Bool.not_eq_true] at hu
          rw [hu]
          simp
    obtain ⟨g, t, g1, g2, g3, g4, g5⟩ := hdown
    have hpos := (sumT_nonneg 441 fun t _ => (hE t).1).2 ⟨t, g3, (hE t).2 ⟨g, g1, g2, g4, g5⟩⟩
    rw [← hfin] at hpos
    refine Int.not_le.1 fun hle => ?_
    have := Int.mul_nonpos_of_nonneg_of_nonpos (Int.le_of_lt hM) (show 21 * areaR ns ls (atR (wF ns ls) f) ≤ 0 by omega)
    omega
  obtain ⟨o0, ho0, ho0l⟩ := outW_is hh
  rcases firstI_cases (outP ns ls (wF ns ls)) (wF ns ls).length with ⟨h1, h2⟩ | ⟨m, h1, h2, h3, h4⟩
  · have : outW ns ls = -1 := h1
    omega
  · have hm : outW ns ls = (m : Int) := h1
    unfold outP at h3
    rw [decide_eq_true_eq] at h3
    have hmo : m = o := by
      refine Classical.byContradiction fun hne => ?_
      have := key m h2 hne
      omega
    exact key k hk (by rintro rfl; exact hne (by rw [hm, hmo]))

end
end Go.Proofs.YtepacoacalhdcaaGreat
