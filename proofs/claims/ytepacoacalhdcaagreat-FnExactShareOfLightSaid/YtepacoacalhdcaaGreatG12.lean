/-
  Several texts in one: a claim has at most 60 files.
-/
import Derived.Test.YtepacoacalhdcaaGreatG21

namespace Go.Proofs.YtepacoacalhdcaaGreat
open Go.RowKit
set_option linter.unusedVariables false
set_option linter.unusedSimpArgs false

theorem besB_none {ns ls : List Nd} {f h : Int} (hf : ¬ idxB (wF ns ls).length f = true) : besB ns ls f h = false := by
  unfold besB
  rw [sharedW_none (fun hx => hf hx.1)]
  simp

theorem besW_none {ns ls : List Nd} {f : Int} (hf : ¬ idxB (wF ns ls).length f = true) : besW ns ls f = [] := fltN_none _ fun k _ => besB_none hf

theorem besW_len (ns ls : List Nd) (f : Int) : (besW ns ls f).length ≤ 40 := by
  have := fltN_len (fun k => besB ns ls f k) (wF ns ls).length
  have := wF_len (ns := ns) (ls := ls)
  unfold besW
  omega

def degF (rs : List (List Int)) (n : Nat) : List Int := (rs.take n).map fun r => ((r.length : Nat) : Int)

theorem degF_succ {rs : List (List Int)} {n : Nat} (h : n < rs.length) : degF rs (n + 1) = degF rs n ++ [(((atR rs n).length : Nat) : Int)] := by
  unfold degF
  rw [takeR_succ h]
  simp

theorem degF_len (rs : List (List Int)) (n : Nat) : (degF rs n).length ≤ n := by unfold degF; rw [List.length_map, List.length_take]; omega

noncomputable def degW (ns ls : List Nd) : List Int := degF (wF ns ls) (wF ns ls).length

theorem degW_len (ns ls : List Nd) : (degW ns ls).length ≤ 40 := by
  have := degF_len (wF ns ls) (wF ns ls).length
  have := wF_len (ns := ns) (ls := ls)
  unfold degW
  omega

/-- What lies in the blocks from B on and before the heap's end of w is as it was. -/
def Keeps (B : Nat) (w W : World) : Prop := w.heap.size ≤ W.heap.size ∧ ∀ k, B ≤ k → k < w.heap.size → W.heap[k]? = w.heap[k]?

theorem Keeps.refl (B : Nat) (w : World) : Keeps B w w := ⟨Nat.le_refl _, fun _ _ _ => rfl⟩

theorem Keeps.below {B : Nat} {w W W' : World} (h : Keeps B w W) (hb : Below W.heap.size W W') : Keeps B w W' := ⟨Nat.le_trans h.1 hb.size, fun k h1 h2 => (hb.block k (Nat.lt_of_lt_of_le h2 h.1)).trans (h.2 k h1 h2)⟩

theorem Keeps.grown {B : Nat} {w W W' : World} {row : Option Nat} (h : Keeps B w W) (hg : W.grownBy W' row) (hr : ∀ k, row = some k → k < B ∨ w.heap.size ≤ k) : Keeps B w W' :=
  ⟨Nat.le_trans h.1 hg.size, fun k h1 h2 => (hg.block k (Nat.lt_of_lt_of_le h2 h.1) (fun e => by have := hr k e.symm; omega)).trans (h.2 k h1 h2)⟩

theorem Faces.open2 {w : World} {B : Nat} {v : Value} {rs : List (List Int)} (h : Faces w B v rs) : ∃ a c, v = .slice a rs.length c ∧ rs.length ≤ maxLen ∧ ∀ m, m < rs.length → ∃ g, a = some ⟨g, 0, none⟩ ∧ g < w.heap.size ∧
    ∀ W, Keeps B w W → ∃ A4 c4, W.cell? ⟨g, m, none⟩ = some (.slice A4 (atR rs m).length c4) ∧ Seq W (.slice A4 (atR rs m).length c4) (atR rs m) := by
  obtain ⟨us, h⟩ := h
  obtain ⟨a, c, rfl, hm, hc⟩ := h.form
  refine ⟨a, c, rfl, hm, fun m hlt => ?_⟩
  obtain ⟨g, rfl, hB, hg, hcell⟩ := hc m hlt
  refine ⟨g, rfl, hg, fun W hb => ?_⟩
  have hi := (h.each m hlt).keep (w' := W) fun k hk => hb.2 k ((h.each m hlt).own k hk).1 ((h.each m hlt).own k hk).2
  have hs := hi.seq
  obtain ⟨A4, c4, e, -, -, -⟩ := hs.form
  exact ⟨A4, c4, by rw [World.cell?_of_block (hb.2 g hB hg), hcell, e], by rw [← e]; exact hs⟩

end Go.Proofs.YtepacoacalhdcaaGreat

namespace Go.Proofs.YtepacoacalhdcaaGreat
open Go.RowKit
set_option linter.unusedVariables false
set_option linter.unusedSimpArgs false

/-- Does the twin of d belong to another face than f? -/
def dualP (ds : List Int) (f : Int) (d : Nat) : Bool := atZ ds (tw d) != f

def cntR (ds : List Int) (f : Int) (r : List Int) : Nat → Int
  | 0 => 0
  | m + 1 => if dualP ds f (atZ r m).toNat = true then cntR ds f r m + 1 else cntR ds f r m

def cntS (ds : List Int) (f : Int) : Nat → Int
  | 0 => 0
  | n + 1 => if (atZ ds n == f && dualP ds f n) = true then cntS ds f n + 1 else cntS ds f n

theorem cntR_succ (ds : List Int) (f : Int) (r : List Int) (m : Nat) : cntR ds f r (m + 1) = if dualP ds f (atZ r m).toNat = true then cntR ds f r m + 1 else cntR ds f r m := rfl

theorem cntS_succ (ds : List Int) (f : Int) (n : Nat) : cntS ds f (n + 1) = if (atZ ds n == f && dualP ds f n) = true then cntS ds f n + 1 else cntS ds f n := rfl

theorem cntR_bd (ds : List Int) (f : Int) (r : List Int) : ∀ m, 0 ≤ cntR ds f r m ∧ cntR ds f r m ≤ m
  | 0 => ⟨Int.le_refl _, Int.le_refl _⟩
  | m + 1 => by have := cntR_bd ds f r m; rw [cntR_succ]; split <;> omega

theorem cntS_bd (ds : List Int) (f : Int) : ∀ m, 0 ≤ cntS ds f m ∧ cntS ds f m ≤ m
  | 0 => ⟨Int.le_refl _, Int.le_refl _⟩
  | m + 1 => by have := cntS_bd ds f m; rw [cntS_succ]; split <;> omega

theorem cntR_eq (ds : List Int) (f : Int) (r : List Int) : ∀ m, m ≤ r.length → cntR ds f r m = ((r.take m).countP (fun x => dualP ds f x.toNat) : Nat)
  | 0, _ => by simp [cntR]
  | m + 1, h => by
    rw [cntR_succ, cntR_eq ds f r m (by omega), List.take_succ_eq_append_getElem (show m < r.length by omega), List.countP_append, atZ_get (show m < r.length by omega)]
    by_cases hp : dualP ds f (atZ r m).toNat = true
    · rw [if_pos hp, List.countP_cons_of_pos (p := fun x : Int => dualP ds f x.toNat) hp]; simp
    · rw [if_neg hp, List.countP_cons_of_neg (p := fun x : Int => dualP ds f x.toNat) hp]; simp

theorem cntS_eq (ds : List Int) (f : Int) : ∀ n, cntS ds f n = ((List.range n).countP (fun d => atZ ds d == f && dualP ds f d) : Nat)
  | 0 => by simp [cntS]
  | n + 1 => by
    rw [cntS_succ, cntS_eq ds f n, List.range_succ, List.countP_append]
    by_cases hp : (atZ ds n == f && dualP ds f n) = true
    · rw [if_pos hp, List.countP_cons_of_pos (p := fun d => atZ ds d == f && dualP ds f d) hp]; simp
    · rw [if_neg hp, List.countP_cons_of_neg (p := fun d => atZ ds d == f && dualP ds f d) hp]; simp

theorem walk_nodup {ns ls : List Nd} {d : Nat} (hw : winB ns ls = true) (hd : d < 2 * ls.length) : (walkN ns ls d).Nodup := by
  obtain ⟨_, _, _, hmin⟩ := perN_spec hw hd
  unfold walkN wkL List.Nodup
  rw [List.pairwise_map]
  refine List.Pairwise.imp_of_mem (fun {a b} ha hb hab e => ?_) List.pairwise_lt_range
  rw [List.mem_range] at ha hb
  have e2 : itN (nxN ns ls) a d = itN (nxN ns ls) a (itN (nxN ns ls) (b - a) d) := by
    rw [← itN_add, show a + (b - a) = b by omega]; omega
  exact hmin (b - a) (by omega) (by omega) (itN_inj (nx_lt hw) (nx_inj hw) a _ _ hd (itN_lt (nx_lt hw) hd _) e2).symm

theorem row_perm {ns ls : List Nd} {k : Nat} (h : k < (wF ns ls).length) : (atR (wF ns ls) k).Perm (((List.range (2 * ls.length)).filter (fun d => atZ (atW ns ls) d == (k : Int))).map fun d : Nat => (d : Int)) := by
  obtain ⟨hh, d0, hd0, e0, _⟩ := wF_row h
  obtain ⟨hw, -, -, -⟩ := whole_win hh
  refine (List.perm_ext_iff_of_nodup (by rw [e0]; exact walk_nodup hw hd0) ?_).2 fun a => ?_
  · unfold List.Nodup
    rw [List.pairwise_map]
    exact (List.pairwise_lt_range.filter _).imp fun h => by omega
  · have hW : wF ns ls = facesL ns ls := if_pos hh
    rw [hW] at h ⊢
    simp only [List.mem_map, List.mem_filter, List.mem_range, beq_iff_eq]
    constructor
    · intro hm
      obtain ⟨i, hi, e⟩ := List.getElem_of_mem hm
      obtain ⟨q, h1, h2, h3⟩ := fix_walk hw h hi
      rw [atZ_get hi, h1] at e
      exact ⟨q, ⟨h2, by rw [atW_at h2, h3]⟩, e⟩
    · rintro ⟨d, ⟨h2, h3⟩, rfl⟩
      rw [atW_at h2] at h3
      have h4 := (fIx_at (faces_all hw _ d (Nat.le_refl _) h2)).1
      have h5 : fIx (facesL ns ls) (d : Int) = k := by omega
      rw [show fIx (facesN ns ls (2 * ls.length)) (d : Int) = k from h5] at h4
      exact List.contains_iff_mem.1 h4

theorem dual_eq {ns ls : List Nd} {k : Nat} (h : k < (wF ns ls).length) : cntR (atW ns ls) k (atR (wF ns ls) k) (atR (wF ns ls) k).length = cntS (atW ns ls) k (2 * ls.length) := by
  rw [cntR_eq _ _ _ _ (Nat.le_refl _), List.take_length, cntS_eq, (row_perm h).countP_eq, List.countP_map, List.countP_filter]
  congr 1
  refine List.countP_congr fun d _ => ?_
  simp only [Function.comp, Int.toNat_natCast, Bool.and_comm]

noncomputable def dualW (ns ls : List Nd) (f : Int) : Int := if idxB (wF ns ls).length f = true then cntS (atW ns ls) f (2 * ls.length) else -1

end Go.Proofs.YtepacoacalhdcaaGreat

namespace Go.Proofs.YtepacoacalhdcaaGreat
open Go.RowKit
set_option linter.unusedVariables false
set_option linter.unusedSimpArgs false

def sumZ : List Int → Int
  | [] => 0
  | x :: t => x + sumZ t

theorem sumZ_perm {a b : List Int} (h : a.Perm b) : sumZ a = sumZ b := by
  induction h with
  | nil => rfl
  | cons x _ ih => simp only [sumZ, ih]
  | swap x y l => simp only [sumZ]; omega
  | trans _ _ ih1 ih2 => exact ih1.trans ih2

theorem sumZ_app (a b : List Int) : sumZ (a ++ b) = sumZ a + sumZ b := by
  induction a with
  | nil => simp [sumZ]
  | cons x t ih => simp only [List.cons_append, sumZ, ih]; omega

/-- What the dart q adds to the area to its left. -/
def crossD (ns ls : List Nd) (q : Nat) : Int := (atI ns (dF ls q)).x * (atI ns (dT ls q)).y - (atI ns (dF ls q)).y * (atI ns (dT ls q)).x

theorem areaL_sum (ns ls : List Nd) (r : List Int) : ∀ m, m ≤ r.length → areaL ns ls r m = sumZ ((r.take m).map fun x => crossD ns ls x.toNat)
  | 0, _ => by simp [areaL, sumZ]
  | m + 1, h => by
    rw [List.take_succ_eq_append_getElem (show m < r.length by omega), List.map_append, sumZ_app, ← areaL_sum ns ls r m (by omega), atZ_get (show m < r.length by omega)]
    simp [areaL, sumZ, crossD]

theorem areaR_sum {ns ls : List Nd} {k : Nat} (h : k < (wF ns ls).length) : areaR ns ls (atR (wF ns ls) k) = sumZ (((List.range (2 * ls.length)).filter (fun d => atZ (atW ns ls) d == (k : Int))).map (crossD ns ls)) := by
  unfold areaR
  rw [areaL_sum _ _ _ _ (Nat.le_refl _), List.take_length]
  have p := (row_perm h).map fun x : Int => crossD ns ls x.toNat
  rw [sumZ_perm p, List.map_map]
  rfl

/-- The areas of the first K faces. -/
noncomputable def sumF (ns ls : List Nd) : Nat → Int
  | 0 => 0
  | K + 1 => sumF ns ls K + areaR ns ls (atR (wF ns ls) K)

theorem filt_succ (c : Nat → Int) (a : Nat → Int) (K : Nat) (l : List Nat) : sumZ ((l.filter (fun d => decide (a d < (K + 1 : Nat)) && decide (0 ≤ a d))).map c) = sumZ ((l.filter (fun d => decide (a d < (K : Nat)) && decide (0 ≤ a d))).map c) + sumZ ((l.filter (fun d => a d == (K : Int))).map c) := by
  induction l with
  | nil => simp [sumZ]
  | cons d t ih =>
    by_cases h1 : a d < (K : Nat) ∧ 0 ≤ a d
    · rw [List.filter_cons_of_pos (by simp; omega), List.filter_cons_of_pos (by simp; omega), List.filter_cons_of_neg (by simp; omega)]
      simp only [List.map_cons, sumZ, ih]
      omega
    · by_cases h2 : a d = (K : Nat)
      · rw [List.filter_cons_of_pos (by simp; omega), List.filter_cons_of_neg (by simp; omega), List.filter_cons_of_pos (by simp; omega)]
        simp only [List.map_cons, sumZ, ih]
        omega
      · rw [List.filter_cons_of_neg (by simp; omega), List.filter_cons_of_neg (by simp; omega), List.filter_cons_of_neg (by simp; omega)]
        exact ih

theorem sumF_filt (ns ls : List Nd) : ∀ K, K ≤ (wF ns ls).length → sumF ns ls K = sumZ (((List.range (2 * ls.length)).filter (fun d => decide (atZ (atW ns ls) d < (K : Nat)) && decide (0 ≤ atZ (atW ns ls) d))).map (crossD ns ls))
  | 0, _ => by
    unfold sumF
    rw [List.filter_eq_nil_iff.2 (fun d _ => by simp <;> omega)]
    rfl
  | K + 1, h => by
    rw [filt_succ, ← sumF_filt ns ls K (by omega), ← areaR_sum (show K < (wF ns ls).length by omega)]
    rfl

theorem cross_twin (ns ls : List Nd) (k : Nat) : crossD ns ls (2 * k) + crossD ns ls (2 * k + 1) = 0 := by
  unfold crossD dF dT
  rw [if_neg (by omega), if_neg (by omega), if_pos (by omega), if_pos (by omega), show 2 * k / 2 = k by omega, show (2 * k + 1) / 2 = k by omega]
  generalize atI ns (atN ls k).x = p
  generalize atI ns (atN ls k).y = q
  rw [Int.mul_comm q.x p.y, Int.mul_comm q.y p.x]
  omega

theorem cross_all (ns ls : List Nd) : ∀ n, sumZ ((List.range (2 * n)).map (crossD ns ls)) = 0
  | 0 => rfl
  | n + 1 => by
    rw [show 2 * (n + 1) = 2 * n + 1 + 1 by omega, List.range_succ, List.range_succ, List.map_append, List.map_append, sumZ_app, sumZ_app, cross_all ns ls n]
    have := cross_twin ns ls n
    simp only [List.map_cons, List.map_nil, sumZ]
    omega

theorem sumF_all {ns ls : List Nd} (hh : wholeB ns ls = true) : sumF ns ls (wF ns ls).length = 0 := by
  rw [sumF_filt _ _ _ (Nat.le_refl _), List.filter_eq_self.2, cross_all]
  intro d hd
  rw [List.mem_range] at hd
  have h1 := (atW_face (whole_win hh).1 hd).2
  have h2 := atW_at (ns := ns) hd
  have hW : wF ns ls = facesL ns ls := if_pos hh
  rw [h2, hW]
  simp
  omega

theorem sumF_pos (ns ls : List Nd) : ∀ K, (∀ k, k < K → 0 < areaR ns ls (atR (wF ns ls) k)) → (K : Int) ≤ sumF ns ls K
  | 0, _ => by simp [sumF]
  | K + 1, h => by
    have ih := sumF_pos ns ls K fun k hk => h k (by omega)
    have := h K (by omega)
    unfold sumF
    omega

theorem wF_pos {ns ls : List Nd} (hh : wholeB ns ls = true) : 0 < (wF ns ls).length := by
  obtain ⟨hw, hl0, -, -⟩ := whole_win hh
  rw [wF_whole hh]
  exact starts_pos hw hl0

/-- A whole window has a wall around. -/
theorem outW_is {ns ls : List Nd} (hh : wholeB ns ls = true) : ∃ o : Nat, outW ns ls = (o : Int) ∧ o < (wF ns ls).length := by
  rcases firstI_cases (outP ns ls (wF ns ls)) (wF ns ls).length with ⟨h1, h2⟩ | ⟨m, h1, h2, _, _⟩
  · exfalso
    have h3 := sumF_pos ns ls (wF ns ls).length fun k hk => by
      have := h2 k hk
      unfold outP at this
      rw [decide_eq_false_iff_not] at this
      omega
    rw [sumF_all hh] at h3
    have := wF_pos hh
    omega
  · exact ⟨m, h1, h2⟩
end Go.Proofs.YtepacoacalhdcaaGreat

namespace Go.Proofs.YtepacoacalhdcaaGreat
open Go.RowKit
set_option linter.unusedVariables false
set_option linter.unusedSimpArgs false

theorem tw_tw (d : Nat) : tw (tw d) = d := by unfold tw; split <;> split <;> omega

theorem tw_half (d : Nat) : tw d / 2 = d / 2 := by unfold tw; split <;> omega

theorem dF_tw (ls : List Nd) (d : Nat) : dF ls (tw d) = dT ls d := by
  unfold dF dT
  rw [tw_half]
  by_cases h : d % 2 = 1
  · rw [if_pos h, if_neg (by unfold tw; rw [if_pos h]; omega)]
  · rw [if_neg h, if_pos (by unfold tw; rw [if_neg h]; omega)]

theorem dT_tw (ls : List Nd) (d : Nat) : dT ls (tw d) = dF ls d := by
  have := dF_tw ls (tw d)
  rw [tw_tw] at this
  exact this.symm

theorem nx_from {ns ls : List Nd} {d : Nat} (hw : winB ns ls = true) (hd : d < 2 * ls.length) : dF ls (nxN ns ls d) = dT ls d := by
  obtain ⟨q, p, r, h1, h2, h3, _⟩ := step_nat (-1) hw (tw_lt hd) (.inr rfl)
  have := nx_step hw hd
  rw [h1] at this
  rw [← Int.ofNat_inj.1 this, h3, dF_tw]

/-- Where a walk turns around, no other dart begins. -/
theorem nx_alone {ns ls : List Nd} {d : Nat} (hw : winB ns ls = true) (hd : d < 2 * ls.length) (h : nxN ns ls d = tw d) {x : Nat} (hx : x < 2 * ls.length) (hf : dF ls x = dT ls d) : x = tw d := by
  obtain ⟨q, p, r, h1, h2, h3, h4, h5, h6, h7, h8⟩ := step_nat (-1) hw (tw_lt hd) (.inr rfl)
  have hq := nx_step hw hd
  rw [h1, h] at hq
  have hq := Int.ofNat_inj.1 hq
  subst hq
  have hnd : (roundL ns ls (tw d)).Nodup := by unfold roundL; exact aroL_nodup _ _ _ _
  have hpr := atZ_inj hnd h4 h6 (h5.trans h7.symm)
  subst hpr
  have hn : (roundL ns ls (tw d)).length = 1 := by
    generalize (roundL ns ls (tw d)).length = n at *
    by_cases h0 : 0 < p
    · rw [show ((p : Int) + -1 + n) = ((p - 1 : Nat) : Int) + n by omega, Int.add_emod_right, Int.emod_eq_of_lt (by omega) (by omega)] at h8
      omega
    · rw [show ((p : Int) + -1 + n) = ((n - 1 : Nat) : Int) by omega, Int.emod_eq_of_lt (by omega) (by omega)] at h8
      omega
  obtain ⟨p2, k1, _, k2, _⟩ := round_place (ns := ns) hw hx
  have hr : roundL ns ls x = roundL ns ls (tw d) := by unfold roundL; rw [hf, dF_tw]
  rw [hr] at k1 k2
  have e : p2 = p := by omega
  subst e
  rw [h5] at k2
  exact (Int.ofNat_inj.1 k2).symm

/-- What does not change along a lead does not change from a node to its label. -/
theorem lab_inv (ls : List Nd) (c : Nat → Prop) : ∀ k, (∀ j, j < k → (c (atN ls j).x.toNat ↔ c (atN ls j).y.toNat)) → ∀ i, (c (lab ls k i) ↔ c i)
  | 0, _, i => Iff.rfl
  | k + 1, h, i => by
    have ih := lab_inv ls c k fun j hj => h j (by omega)
    have hi := ih i
    have ha := ih (atN ls k).x.toNat
    have hb := ih (atN ls k).y.toNat
    have hk := h k (by omega)
    unfold lab
    generalize lab ls k (atN ls k).x.toNat = a at *
    generalize lab ls k (atN ls k).y.toNat = b at *
    generalize lab ls k i = q at *
    have hab : c a ↔ c b := ha.trans (hk.trans hb.symm)
    by_cases h1 : q = max a b
    · rw [if_pos h1]
      rcases Nat.le_total a b with h2 | h2
      · rw [Nat.min_eq_left h2]
        rw [Nat.max_eq_right h2] at h1
        rw [← hi, h1]; exact hab
      · rw [Nat.min_eq_right h2]
        rw [Nat.max_eq_left h2] at h1
        rw [← hi, h1]; exact hab.symm
    · rw [if_neg h1]; exact hi

theorem whole_lab {ns ls : List Nd} (hh : wholeB ns ls = true) {p : Nat} (hp : p < ns.length) : lab ls ls.length p = lab ls ls.length 0 := by
  unfold wholeB at hh
  simp only [Bool.and_eq_true, decide_eq_true_eq] at hh
  have := (fltN_full _ _).1 hh.2 p hp
  simpa using this

theorem walk_three {ns ls : List Nd} {d : Nat} (hh : wholeB ns ls = true) (hd : d < 2 * ls.length) (h2 : 2 ≤ ls.length) : 3 ≤ perN ns ls d := by
  obtain ⟨hw, -, -, -⟩ := whole_win hh
  obtain ⟨p0, p1, p2, p3⟩ := perN_spec hw hd
  refine Classical.byContradiction fun hlt => ?_
  have h12 : perN ns ls d = 1 ∨ perN ns ls d = 2 := by omega
  obtain ⟨a, b, hda, hdb, ha, hb, hab⟩ := dart_nat (ns := ns) hw hd
  rcases h12 with e | e
  · rw [e] at p2
    have := nx_from hw hd
    rw [show nxN ns ls d = d from p2, hda, hdb] at this
    omega
  · rw [e] at p2
    have p2 : nxN ns ls (nxN ns ls d) = d := p2
    have hlt2 := nx_lt hw d hd
    have f1 := nx_from hw hd
    have f2 := nx_from hw hlt2
    rw [p2] at f2
    have ht : nxN ns ls d = tw d := by
      refine Classical.byContradiction fun hne => ?_
      have g1 := dF_tw ls d
      have g2 := dT_tw ls d
      rcases Nat.lt_or_gt_of_ne hne with h | h
      · exact ends_differ hw h (tw_lt hd) f1 g1 (f2.symm.trans g2.symm)
      · exact ends_differ hw h hlt2 g1 f1 (g2.trans f2)
    have a1 := fun x hx hf => nx_alone hw hd ht (x := x) hx hf
    have ht2 : nxN ns ls (tw d) = tw (tw d) := by rw [tw_tw, ← ht, p2]
    have a2 := fun x hx hf => nx_alone hw (tw_lt hd) ht2 (x := x) hx hf
    rw [tw_tw, dT_tw] at a2
    have hj : ∀ j, j < ls.length → (((atN ls j).x = dF ls d ∨ (atN ls j).x = dT ls d ∨ (atN ls j).y = dF ls d ∨ (atN ls j).y = dT ls d)) → j = d / 2 := by
      intro j hj h
      have e1 : dF ls (2 * j) = (atN ls j).x := by unfold dF; rw [if_neg (by omega), show 2 * j / 2 = j by omega]
      have e2 : dF ls (2 * j + 1) = (atN ls j).y := by unfold dF; rw [if_pos (by omega), show (2 * j + 1) / 2 = j by omega]
      have ht := tw_half d
      rcases h with h | h | h | h
      · have := a2 (2 * j) (by omega) (e1.trans h); omega
      · have := a1 (2 * j) (by omega) (e1.trans h); omega
      · have := a2 (2 * j + 1) (by omega) (e2.trans h); omega
      · have := a1 (2 * j + 1) (by omega) (e2.trans h); omega
    have hd2 : d / 2 < ls.length := by omega
    have hxy : ((atN ls (d / 2)).x = dF ls d ∧ (atN ls (d / 2)).y = dT ls d) ∨ ((atN ls (d / 2)).y = dF ls d ∧ (atN ls (d / 2)).x = dT ls d) := by
      unfold dF dT
      by_cases h : d % 2 = 1
      · rw [if_pos h, if_pos h]; exact .inr ⟨rfl, rfl⟩
      · rw [if_neg h, if_neg h]; exact .inl ⟨rfl, rfl⟩
    have hinv := lab_inv ls (fun x => x = a ∨ x = b) ls.length fun j hjl => by
      obtain ⟨p, q, ep, hpq, hp, hq, _⟩ := leadOkB_spec (((winB_iff ns ls).1 hw).2.2 j hjl).1
      have hjj := hj j hjl
      by_cases e : j = d / 2
      · subst e
        rw [ep] at hxy ⊢
        simp only at hxy
        simp only [Int.toNat_natCast]
        rw [hda, hdb] at hxy
        constructor
        · intro _; omega
        · intro _; omega
      · rw [ep] at hjj ⊢
        simp only at hjj
        simp only [Int.toNat_natCast]
        rw [hda, hdb] at hjj
        constructor
        · intro h; exact absurd (hjj (by omega)) e
        · intro h; exact absurd (hjj (by omega)) e
    have hall : ∀ x, x < ns.length → (x = a ∨ x = b) := fun x hx => by
      rw [← hinv x, whole_lab hh hx, ← whole_lab hh ha, hinv a]
      exact .inl rfl
    have hone : ∀ j, j < ls.length → j = d / 2 := fun j hjl => by
      obtain ⟨p, q, ep, hpq, hp, hq, _⟩ := leadOkB_spec (((winB_iff ns ls).1 hw).2.2 j hjl).1
      refine hj j hjl ?_
      rw [ep, hda, hdb]
      simp only
      have := hall p hp
      omega
    have := hone 0 (by omega)
    have := hone 1 (by omega)
    omega

theorem faces_flat {ns ls : List Nd} (hw : winB ns ls = true) : ∀ n, n ≤ 2 * ls.length → (facesN ns ls n).flatten.Nodup ∧ ∀ x, x ∈ (facesN ns ls n).flatten → ∃ q : Nat, x = q ∧ q < 2 * ls.length
  | 0, _ => ⟨by simp [facesN, startsL], fun x hx => by simp [facesN, startsL] at hx⟩
  | n + 1, hn => by
    obtain ⟨h1, h2⟩ := faces_flat hw n (by omega)
    rw [facesN_succ]
    by_cases hs : seenB (facesN ns ls n) (n : Int) = true
    · rw [if_pos hs]; exact ⟨h1, h2⟩
    · rw [if_neg hs, List.flatten_append]
      simp only [List.flatten_cons, List.flatten_nil, List.append_nil]
      refine ⟨?_, fun x hx => ?_⟩
      · rw [List.nodup_append]
        refine ⟨h1, walk_nodup hw (by omega), fun a ha b hb e => ?_⟩
        subst e
        have := faces_new hw (by omega) hs hb
        rw [Bool.eq_false_iff] at this
        refine this ((seenB_iff _ _).2 ?_)
        obtain ⟨r, hr, hx⟩ := List.mem_flatten.1 ha
        exact ⟨r, hr, hx⟩
      · rcases List.mem_append.1 hx with hx | hx
        · exact h2 x hx
        · exact walk_nat hw (by omega) hx

theorem flat_three : ∀ (rs : List (List Int)), (∀ r, r ∈ rs → 3 ≤ r.length) → 3 * rs.length ≤ rs.flatten.length
  | [], _ => by simp
  | r :: t, h => by
    have := flat_three t fun x hx => h x (by simp [hx])
    have := h r (by simp)
    simp only [List.flatten_cons, List.length_append, List.length_cons]
    omega

/-- At most thirteen faces. -/
theorem wF_thirteen (ns ls : List Nd) : (wF ns ls).length ≤ 13 := by
  by_cases hh : wholeB ns ls = true
  · obtain ⟨hw, hl0, hl20, -⟩ := whole_win hh
    rw [wF_whole hh]
    by_cases h2 : 2 ≤ ls.length
    · obtain ⟨h1, hx⟩ := faces_flat hw (2 * ls.length) (Nat.le_refl _)
      have h3 := flat_three (facesN ns ls (2 * ls.length)) fun r hr => by
        obtain ⟨d, hd, rfl⟩ := facesN_row hr
        unfold walkN
        rw [wkL_len]
        exact walk_three hh (by have := startsL_lt ns ls _ _ hd; omega) h2
      have h4 := nodup_le (2 * ls.length) _ h1 hx
      omega
    · have := faces_len ns ls
      unfold facesL at this
      omega
  · unfold wF
    rw [if_neg hh]
    simp

/-- The faces but the wall around are at most twelve. -/
theorem inn_twelve (ns ls : List Nd) : (fltN (fun k => !((k : Int) == outW ns ls)) (wF ns ls).length).length ≤ 12 := by
  have h13 := wF_thirteen ns ls
  have hle := fltN_len (fun k => !((k : Int) == outW ns ls)) (wF ns ls).length
  by_cases hh : wholeB ns ls = true
  · obtain ⟨o, ho, hlt⟩ := outW_is hh
    have hf := fltN_full (fun k => !((k : Int) == outW ns ls)) (wF ns ls).length
    by_cases e : (fltN (fun k => !((k : Int) == outW ns ls)) (wF ns ls).length).length = (wF ns ls).length
    · have := hf.1 e o hlt
      rw [ho] at this
      simp at this
    · omega
  · have : (wF ns ls).length = 0 := by unfold wF; rw [if_neg hh]; rfl
    omega
end Go.Proofs.YtepacoacalhdcaaGreat
