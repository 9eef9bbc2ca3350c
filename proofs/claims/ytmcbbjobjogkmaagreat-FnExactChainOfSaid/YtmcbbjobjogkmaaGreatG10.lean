/-
  Several texts in one: a claim has at most 60 files.
-/
import Derived.Test.YtmcbbjobjogkmaaGreatMatP
import Derived.Test.YtmcbbjobjogkmaaGreatGlsG
import Derived.Test.YtmcbbjobjogkmaaGreatG3
import Derived.Test.YtmcbbjobjogkmaaGreatGlsU
import Derived.WalkMore
import Derived.Test.YtmcbbjobjogkmaaGreatMat

namespace Go.Proofs.YtmcbbjobjogkmaaGreat
open Go.RowKit
set_option linter.unusedVariables false
set_option linter.unusedSimpArgs false

/-- n pigeons leave a hole among n + 1. -/
theorem hole_left : ∀ (k : Nat) (f : Nat → Int), (∀ c : Nat, c ≤ k → ∃ i, i < k ∧ f i = (c : Int)) → False
  | 0, f, h => by
    obtain ⟨i, hi, _⟩ := h 0 (Nat.le_refl _)
    omega
  | k + 1, f, h => by
    refine hole_left k (fun i => if f i > f k then f i - 1 else f i) fun c hc => ?_
    by_cases e : (c : Int) < f k
    · obtain ⟨i, hi, he⟩ := h c (by omega)
      have hik : i ≠ k := by rintro rfl; omega
      exact ⟨i, by omega, by show (if f i > f k then f i - 1 else f i) = _; rw [if_neg (by omega), he]⟩
    · obtain ⟨i, hi, he⟩ := h (c + 1) (by omega)
      have hik : i ≠ k := by rintro rfl; omega
      exact ⟨i, by omega, by show (if f i > f k then f i - 1 else f i) = _; rw [if_pos (by omega), he]; omega⟩

/-- No face before k that is beside k has the color c. -/
def freC (M : Nat → Nat → Bool) (xs : List Int) (k c : Nat) : Bool := (List.range k).all fun i => !(M k i && decide (atZ xs i = (c : Int)))

theorem freC_iff {M : Nat → Nat → Bool} {xs : List Int} {k c : Nat} : freC M xs k c = true ↔ ∀ i, i < k → M k i = true → atZ xs i ≠ (c : Int) := by
  unfold freC
  simp only [List.all_eq_true, List.mem_range, Bool.not_eq_true', Bool.and_eq_false_iff, decide_eq_false_iff_not]
  constructor
  · intro h i hi hm
    rcases h i hi with h1 | h1
    · rw [hm] at h1; cases h1
    · exact h1
  · intro h i hi
    cases hm : M k i
    · exact .inl rfl
    · exact .inr (h i hi hm)

def mexZ (M : Nat → Nat → Bool) (xs : List Int) (k : Nat) : Int := firstI (freC M xs k) (k + 1)

theorem mex_is (M : Nat → Nat → Bool) (xs : List Int) (k : Nat) : ∃ m : Nat, mexZ M xs k = m ∧ m ≤ k ∧ freC M xs k m = true ∧ ∀ j, j < m → freC M xs k j = false := by
  rcases firstI_cases (freC M xs k) (k + 1) with ⟨_, h⟩ | ⟨m, h1, h2, h3, h4⟩
  · refine absurd ?_ id
    refine hole_left k (atZ xs) fun c hc => ?_
    have h1 := h c (by omega)
    have h2 : ¬ ∀ i, i < k → M k i = true → atZ xs i ≠ (c : Int) := by rw [← freC_iff, h1]; simp
    refine Classical.byContradiction fun h3 => h2 fun i hi _ he => h3 ⟨i, hi, he⟩
  · exact ⟨m, h1, by omega, h3, h4⟩

theorem mex_end {M : Nat → Nat → Bool} {xs : List Int} {k m c : Nat} (hm : ∀ j, j < m → freC M xs k j = false) (hc : c ≤ m) (h : ∀ i, i < k → M k i = true → atZ xs i ≠ (c : Int)) : c = m := by
  rcases Nat.lt_or_ge c m with h1 | h1
  · have := hm c h1
    rw [freC_iff.2 h] at this
    cases this
  · omega

theorem mex_up {M : Nat → Nat → Bool} {xs : List Int} {k m c i : Nat} (hm : freC M xs k m = true) (hc : c ≤ m) (hi : i < k) (h1 : M k i = true) (h2 : atZ xs i = (c : Int)) : c + 1 ≤ m := by
  rcases Nat.lt_or_ge c m with h3 | h3
  · exact h3
  · have : c = m := by omega
    subst this
    exact absurd h2 (freC_iff.1 hm i hi h1)

/-- The colors of the first k faces. -/
def grdL (M : Nat → Nat → Bool) : Nat → List Int
  | 0 => []
  | k + 1 => grdL M k ++ [mexZ M (grdL M k) k]

theorem grdL_succ (M : Nat → Nat → Bool) (k : Nat) : grdL M (k + 1) = grdL M k ++ [mexZ M (grdL M k) k] := rfl

theorem grdL_len (M : Nat → Nat → Bool) : ∀ k, (grdL M k).length = k
  | 0 => rfl
  | k + 1 => by rw [grdL_succ, List.length_append, grdL_len M k]; rfl

theorem besM_sub (ds : List Int) (f h : Nat) : ∀ q, besM ds q f h = (decide ((f : Int) ≠ (h : Int)) && decide (0 < (fltN (sharedP ds f h) q).length))
  | 0 => by simp [besM, fltN]
  | q + 1 => by
    rw [besM_succ, besM_sub ds f h q, fltN_succ]
    generalize fltN (sharedP ds f h) q = X
    unfold sharedP
    generalize atZ ds (2 * q) = a
    generalize atZ ds (2 * q + 1) = b
    by_cases hfh : (f : Int) = (h : Int)
    · rw [← hfh, Bool.eq_iff_iff]
      simp
      omega
    · rw [Bool.eq_iff_iff]
      by_cases hs : (a = f ∧ b = h) ∨ (a = h ∧ b = f)
      · have e : ((a == (f : Int) && b == (h : Int)) || (a == (h : Int) && b == (f : Int))) = true := by simpa using hs
        have hab : a ≠ b := by rcases hs with ⟨h1, h2⟩ | ⟨h1, h2⟩ <;> rw [h1, h2] <;> intro e2 <;> exact hfh (by omega)
        rw [if_pos e]
        simp [hab, hs]
        omega
      · have e : ¬ ((a == (f : Int) && b == (h : Int)) || (a == (h : Int) && b == (f : Int))) = true := by simpa using hs
        rw [if_neg e]
        simp only [Bool.or_eq_true, Bool.and_eq_true, decide_eq_true_eq]
        exact ⟨fun h1 => h1.elim id fun h2 => absurd h2.2 hs, .inl⟩

/-- The colors before n that none of the faces of the row has. -/
def freeJ (row xs : List Int) (c : Nat) : Bool := row.all fun h => !decide (atZ xs h.toNat = (c : Int))

def chL (row xs : List Int) (n : Nat) : List Int := fltN (freeJ row xs) n

theorem freeJ_hit {row xs : List Int} {c j : Nat} (hj : j < row.length) (h : atZ xs (atZ row j).toNat = (c : Int)) : freeJ row xs c = false := by
  rw [Bool.eq_false_iff]
  intro h1
  unfold freeJ at h1
  rw [List.all_eq_true] at h1
  have := h1 (atZ row j) (by rw [← atZ_get hj]; exact List.getElem_mem hj)
  simp [h] at this

theorem freeJ_none {row xs : List Int} {c : Nat} (h : ∀ j, j < row.length → atZ xs (atZ row j).toNat ≠ (c : Int)) : freeJ row xs c = true := by
  unfold freeJ
  rw [List.all_eq_true]
  intro x hx
  obtain ⟨p, hp, he, _⟩ := atZ_of_mem hx
  have := h p hp
  rw [he] at this
  simp [this]

theorem flt_first {p : Nat → Bool} {m : Nat} (hp : p m = true) (hb : ∀ j, j < m → p j = false) : ∀ n, m < n → 0 < (fltN p n).length ∧ atZ (fltN p n) 0 = (m : Int)
  | 0, h => by omega
  | n + 1, h => by
    rw [fltN_succ]
    by_cases e : m = n
    · subst e
      rw [if_pos hp, fltN_none m hb]
      exact ⟨by simp, rfl⟩
    · obtain ⟨h1, h2⟩ := flt_first hp hb n (by omega)
      split
      · exact ⟨by rw [List.length_append]; omega, by rw [atZ_more h1]; exact h2⟩
      · exact ⟨h1, h2⟩

/-- What the program's list holds ahead of face k. -/
def fillL (M : Nat → Nat → Bool) (n k : Nat) : List Int := grdL M k ++ List.replicate (n - k) (-1)

theorem fillL_len (M : Nat → Nat → Bool) {n k : Nat} (h : k ≤ n) : (fillL M n k).length = n := by
  unfold fillL
  rw [List.length_append, grdL_len, List.length_replicate]
  omega

theorem fillL_zero (M : Nat → Nat → Bool) (n : Nat) : fillL M n 0 = List.replicate n (-1) := rfl

theorem fillL_end (M : Nat → Nat → Bool) (n : Nat) : fillL M n n = grdL M n := by unfold fillL; simp

theorem fillL_next (M : Nat → Nat → Bool) {n k : Nat} (h : k < n) : (fillL M n k).set k (mexZ M (grdL M k) k) = fillL M n (k + 1) := by
  unfold fillL
  obtain ⟨q, hq⟩ : ∃ q, n - k = q + 1 := ⟨n - k - 1, by omega⟩
  rw [hq, show n - (k + 1) = q from by omega, List.set_append, if_neg (by rw [grdL_len]; omega), grdL_len, Nat.sub_self, grdL_succ, List.replicate_succ]
  simp

theorem atZ_fill_lo (M : Nat → Nat → Bool) {n k i : Nat} (h : i < k) : atZ (fillL M n k) i = atZ (grdL M k) i := by
  unfold fillL atZ
  simp [List.getD, List.getElem?_append, grdL_len, h]

theorem atZ_fill_hi (M : Nat → Nat → Bool) {n k i : Nat} (h : k ≤ i) (h2 : i < n) : atZ (fillL M n k) i = -1 := by
  unfold fillL atZ
  simp [List.getD, List.getElem?_append, grdL_len, show ¬ i < k by omega, List.getElem?_replicate, show i - k < n - k by omega]

/-- The row of the faces beside face k. -/
def rowM (M : Nat → Nat → Bool) (n k : Nat) : List Int := fltN (fun h => M k h) n

theorem freeJ_is (M : Nat → Nat → Bool) {n k : Nat} (hk : k < n) (c : Nat) : freeJ (rowM M n k) (fillL M n k) c = freC M (grdL M k) k c := by
  rw [Bool.eq_iff_iff, freC_iff]
  constructor
  · intro h i hi hm
    unfold freeJ at h
    rw [List.all_eq_true] at h
    have := h (i : Int) (by unfold rowM; rw [fltN_mem]; exact ⟨i, rfl, by omega, hm⟩)
    rw [← atZ_fill_lo M (n := n) hi]
    simpa using this
  · intro h
    refine freeJ_none fun j hj => ?_
    have hmem : atZ (rowM M n k) j ∈ rowM M n k := by rw [← atZ_get hj]; exact List.getElem_mem hj
    obtain ⟨i, hi, hin, hm⟩ := (fltN_mem (fun h => M k h) n _).1 hmem
    rw [hi]
    show atZ (fillL M n k) i ≠ _
    rcases Nat.lt_or_ge i k with h1 | h1
    · rw [atZ_fill_lo M h1]; exact h i h1 hm
    · rw [atZ_fill_hi M h1 hin]; omega

theorem chL_first (M : Nat → Nat → Bool) {n k : Nat} (hk : k < n) : 0 < (chL (rowM M n k) (fillL M n k) n).length ∧ atZ (chL (rowM M n k) (fillL M n k) n) 0 = mexZ M (grdL M k) k := by
  obtain ⟨m, hm, hmk, h1, h2⟩ := mex_is M (grdL M k) k
  rw [hm]
  unfold chL
  exact flt_first (by rw [freeJ_is M hk]; exact h1) (fun j hj => by rw [freeJ_is M hk]; exact h2 j hj) n (by omega)

theorem rowM_lt {M : Nat → Nat → Bool} {n k j : Nat} (hj : j < (rowM M n k).length) : ∃ q : Nat, atZ (rowM M n k) j = q ∧ q < n := by
  have hmem : atZ (rowM M n k) j ∈ rowM M n k := by rw [← atZ_get hj]; exact List.getElem_mem hj
  obtain ⟨i, hi, hin, hm⟩ := (fltN_mem (fun h => M k h) n _).1 hmem
  exact ⟨i, hi, hin⟩

section

variable {w w' : World} {B : Nat} {v : Value} {g : Nat → Nat} {k n : Nat} {M : Nat → Nat → Bool}

/-- A row of ints grows: the square of bools lies elsewhere. -/
theorem MatG.grownI (h : MatG w B v g k n M) {B' : Nat} {u : Value} {xs : List Int} (hx : Ints w B' u xs) (hg : w.grownBy w' u.ownBlock) : MatG w' B v g k n M := by
  refine ⟨ownsRow_block h.row fun b e => hg.block b (h.own b e).2 fun e2 => ?_, h.low, fun j hj => rowIs_grown (h.each j hj) hg fun e => hx.farB (h.each j hj) e rfl, h.apart⟩
  obtain ⟨c1, h1⟩ := mat_typed h e
  obtain ⟨c2, h2⟩ := hx.typed (k := b) (by first | exact e2 | exact e2.symm)
  rw [h1] at h2
  simp at h2

end
end Go.Proofs.YtmcbbjobjogkmaaGreat

namespace Go.Proofs.YtmcbbjobjogkmaaGreat
open Go.RowKit
set_option linter.unusedVariables false
set_option linter.unusedSimpArgs false

theorem heldC (w : World) (v1 v2 v3 : Value) (T : TypeId) : Held w (w.alloc (.cells #[v1, v2, v3] T)) [(w.heap.size, 0, v1), (w.heap.size, 1, v2), (w.heap.size, 2, v3)] := (Held.none_ w).new2 w.heap.size rfl [v1, v2, v3] T

set_option maxRecDepth 100000 in
set_option maxHeartbeats 4000000 in
theorem implChoices (vb vc : Value) (us : List Value) (rs : List (List Int)) (xs : List Int) (n f B B2 : Nat) (w : World) (hb : FaceV w B vb us rs) (hc : Ints w B2 vc xs) (hf : f < rs.length) (hr : ∀ j, j < (atR rs f).length → ∃ q : Nat, atZ (atR rs f) j = q ∧ q < xs.length) (hn : n ≤ 40) (hrl : (atR rs f).length ≤ 40) (hxl : xs.length ≤ 40) (hfl : rs.length ≤ 40) :
    Calls Tryz.prog 90 #[.agg #[vb, vc, .int .i64 n], .int .i64 f] w (IntsNew (chL (atR rs f) xs n) w) := by
  obtain ⟨gb, cb, rfl⟩ := hb.some_ (by omega)
  obtain ⟨hcell, hgb⟩ := hb.cellAt hf
  have HROW := Lib.hid (hb.each f hf)
  have HHIT := Lib.hid (fun c j => freeJ_hit (row := atR rs f) (xs := xs) (c := c) (j := j))
  have HNON := Lib.hid (fun c => freeJ_none (row := atR rs f) (xs := xs) (c := c))
  unfold chL
  have HR := Lib.hid hr; clear hr
  obtain ⟨ar, cr, hvr, -⟩ := HROW.out.form
  rw [hvr] at hcell HROW
  clear hvr
  generalize atR rs f = row at *
  obtain ⟨ac, cc, rfl, -⟩ := hc.form
  have HC := Lib.hid hc; clear hc
  have HU := Lib.hid (fltN_succ (freeJ row xs))
  have HLN := Lib.hid (fltN_len (freeJ row xs))
  have HZ := Lib.hid (show fltN (freeJ row xs) 0 = [] from rfl)
  generalize hp : freeJ row xs = p at *
  generalize hX : fltN p = X at *
  clear hp hX
  have H0 := Lib.hid (heldC w (.slice (some ⟨gb, 0, none⟩) rs.length cb) (.slice ac xs.length cc) (.int .i64 n) 107)
  have q1 : (0 : Int) ≤ f := by omega
  have q2 : (f : Int) < (rs.length : Int) := by omega
  obtain ⟨i0, hi, hz0, hz1, hz2⟩ := info_parts infoInt
  have HI := Lib.hid (And.intro hi (And.intro hz0 (And.intro hz1 hz2))); clear hi hz0 hz1 hz2
  have HCL := Lib.hid (And.intro hcell hgb); clear hcell hgb
  clear hb
  go_enter Tryz.func90, Tryz.ntmps90
  obtain ⟨x0, x1, x2, _⟩ := H0.out.1
  go_wp2_with fail
  go_step3
  go_wp2_with fail
  go_step3
  go_wp2_with fail
  clear x0 x1 x2
  go_loopw [5, 12] (fun u i wr => ∃ k : Nat, k ≤ n ∧ i = .int .i64 k ∧ Ints wr (w.heap.size + 1) u (X k) ∧ Held w wr [(w.heap.size, 0, .slice (some ⟨gb, 0, none⟩) rs.length cb), (w.heap.size, 1, .slice ac xs.length cc), (w.heap.size, 2, .int .i64 n)]) (fun _ i _ => n - (intOf i).toNat)
  case atStart => exact ⟨0, Nat.zero_le _, rfl, by rw [HZ.out]; exact Ints.made _ _ _ (by simp) (Nat.le_refl _), H0.out.alloc _⟩
  case round =>
    clear H0
    obtain ⟨k, hk, rfl, hown, hh⟩ := hrel
    have HO := Lib.hid hown; clear hown
    have H1 := Lib.hid hh; clear hh
    obtain ⟨x0, x1, x2, _⟩ := H1.out.1
    by_cases hlt : k < n
    · have q3 : (0 : Int) ≤ k := by omega
      have q4 : (k : Int) < (n : Int) := by omega
      have hln := HLN.out k
      have c0 := (H1.out.below.cell (p := ⟨gb, f, none⟩) HCL.out.2).trans HCL.out.1
      have HUK := Lib.hid (HU.out k)
      have HHK := Lib.hid (HHIT.out k)
      have HNK := Lib.hid (HNON.out k)
      generalize hpk : p k = b at *
      clear hpk
      go_wp2_with fail
      go_loopw [21] (fun i wq => ∃ j : Nat, j ≤ row.length ∧ i = .int .i64 j ∧ (∀ j', j' < j → atZ xs (atZ row j').toNat ≠ (k : Int)) ∧ wq = wr) (fun i _ => row.length - (intOf i).toNat)
      case atStart => exact ⟨0, Nat.zero_le _, rfl, fun j' hj => by omega, rfl⟩
      case round =>
        obtain ⟨j, hj, rfl, hno, rfl⟩ := hrel
        have HNO := Lib.hid hno; clear hno
        by_cases hjr : j < row.length
        · have HR1 := Lib.hid (HROW.out.step H1.out.below)
          obtain ⟨gr, cr2, hvr⟩ := HR1.out.some_ (by omega)
          simp only [Value.slice.injEq] at hvr
          obtain ⟨rfl, -, rfl⟩ := hvr
          obtain ⟨y0, -, y1, -, -⟩ := HR1.out.at_ hjr
          obtain ⟨q, hq, hqx⟩ := HR.out j hjr
          have HC1 := Lib.hid (HC.out.step H1.out.below)
          obtain ⟨gc, cc2, hvc⟩ := HC1.out.some_ (by omega)
          simp only [Value.slice.injEq] at hvc
          obtain ⟨rfl, -, rfl⟩ := hvc
          obtain ⟨z0, -, z1, -, -⟩ := HC1.out.at_ hqx
          rw [hq] at y0
          have HNX := Lib.hid (fun (h : atZ xs q ≠ (k : Int)) j' (hj' : j' < j + 1) => (show atZ xs (atZ row j').toNat ≠ (k : Int) from by
            by_cases e : j' = j
            · subst e; rw [hq]; exact h
            · exact HNO.out j' (by omega)))
          have HHT := Lib.hid (fun (h : atZ xs q = (k : Int)) => HHK.out j hjr (by rw [hq]; exact h))
          have p1 : (0 : Int) ≤ j := by omega
          have p2 : (j : Int) < (row.length : Int) := by omega
          have p3 : (0 : Int) ≤ q := by omega
          have p4 : (q : Int) < (xs.length : Int) := by omega
          clear hq
          by_cases hx : atZ xs q = (k : Int)
          · have hbf := HHT.out hx
            rw [hx] at z0
            subst hbf
            go_wp2_with fail
            exact ⟨⟨k + 1, by omega, by go_num, by rw [HUK.out]; exact HO.out, H1.out⟩, by simp [intOf]; omega⟩
          · have HN2 := Lib.hid (HNX.out hx)
            have e1 : (atZ xs q == (k : Int)) = false := by rw [beq_eq_false_iff_ne]; exact hx
            have e2 : decide (atZ xs q = (k : Int)) = false := by simp [hx]
            go_wp2_with fail
            exact ⟨⟨j + 1, by omega, by go_num, HN2.out, by first | rfl | trivial⟩, by simp [intOf]; omega⟩
        · obtain rfl : j = row.length := by omega
          have hbt : b = true := HNK.out HNO.out
          subst hbt
          obtain ⟨hi, hz0, hz1, hz2⟩ := HI.out
          have hsz1 := H1.out.2.1.1
          go_wp2_with (at_builtin; refine wpList_append_own _ rfl _ _ 26 rfl (w.heap.size + 1) 3 i0 (.int .i64 0) 1 8 Tryz.underlying26 hi hz0 hz1 hz2 rfl (by decide) _ _ _ rfl (World.ownsRow.alloc HO.out _) ⟨_, 0, none⟩ 1 1 [.int .i64 k] rfl rfl ?c1 ?c2 ?c3 ?c4 ?c5 ?_)
          try (case c1 => exact cell_one_new _ _ _)
          case c2 => simp [Value.oneCell']
          case c3 => unfold maxLen; omega
          case c4 => omega
          case c5 => first | omega | (simp <;> omega)
          intro v' w5 hown hgrow _
          have H5 := Lib.hid (H1.out.stepB (B := w.heap.size + 1) ⟨Nat.lt_succ_self _, Nat.lt_succ_self _, Nat.lt_succ_self _, trivial⟩ (grown_below HO.out hsz1 hgrow) (Nat.le_succ _))
          have HO5 := Lib.hid (Ints.more hown); clear hown hgrow
          go_wp2_with fail
          exact ⟨⟨k + 1, by omega, by go_num, by rw [HUK.out]; exact HO5.out, H5.out⟩, by simp [intOf]; omega⟩
    · obtain rfl : k = n := by omega
      go_wp2_with fail
      go_ret
      exact ⟨_, rfl, HO.out.mono (Nat.le_succ _), H1.out.below⟩
end Go.Proofs.YtmcbbjobjogkmaaGreat

namespace Go.Proofs.YtmcbbjobjogkmaaGreat
open Go.RowKit
set_option linter.unusedVariables false
set_option linter.unusedSimpArgs false

/-- The colors of all faces of a whole window. -/
noncomputable def grdW (ns ls : List Nd) : List Int := if wholeB ns ls = true then grdL (besM (atW ns ls) ls.length) (wF ns ls).length else []

end Go.Proofs.YtmcbbjobjogkmaaGreat
