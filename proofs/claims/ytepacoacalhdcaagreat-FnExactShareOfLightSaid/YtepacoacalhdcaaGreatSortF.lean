/-
  slices.SortFunc at the darts around a node: at most twelve, put in one by one.
-/
import Derived.Test.YtepacoacalhdcaaGreatG2
import Derived.Test.YtepacoacalhdcaaGreatAro
import Derived.Test.YtepacoacalhdcaaGreatG39
import Derived.BigRegion
namespace Go.Proofs.YtepacoacalhdcaaGreat
open Go.RowKit
set_option linter.unusedVariables false
set_option linter.unusedSimpArgs false

def sortL (lt : Int → Int → Bool) (xs : List Int) : List Int := xs.foldl (fun l d => insL lt d l) []

theorem insL_len2 (lt : Int → Int → Bool) (d : Int) (l : List Int) : (insL lt d l).length = l.length + 1 := insM_len lt d l _ (Nat.le_refl _)

theorem sortL_more (lt : Int → Int → Bool) (xs : List Int) (d : Int) : sortL lt (xs ++ [d]) = insL lt d (sortL lt xs) := by simp [sortL]

theorem sortL_take (lt : Int → Int → Bool) (xs : List Int) (i : Nat) (h : i < xs.length) : sortL lt (xs.take (i + 1)) = insL lt (atZ xs i) (sortL lt (xs.take i)) := by
  rw [List.take_succ_eq_append_getElem h, sortL_more, atZ_get h]

theorem sortL_len (lt : Int → Int → Bool) : ∀ (n : Nat) (xs : List Int), xs.length = n → (sortL lt xs).length = n
  | 0, xs, h => by obtain rfl := List.eq_nil_of_length_eq_zero h; rfl
  | n + 1, xs, h => by
    have e : xs = xs.take n ++ [atZ xs n] := by
      rw [← atZ_get (by omega), ← List.take_succ_eq_append_getElem (by omega), List.take_of_length_le (by omega)]
    rw [e, sortL_more, insL_len2, sortL_len lt n _ (by simp; omega)]

theorem sortL_mem (lt : Int → Int → Bool) : ∀ (n : Nat) (xs : List Int), xs.length = n → ∀ x, x ∈ sortL lt xs → x ∈ xs
  | 0, xs, h, x, hx => by obtain rfl := List.eq_nil_of_length_eq_zero h; simp [sortL] at hx
  | n + 1, xs, h, x, hx => by
    have e : xs = xs.take n ++ [atZ xs n] := by
      rw [← atZ_get (by omega), ← List.take_succ_eq_append_getElem (by omega), List.take_of_length_le (by omega)]
    rw [e, sortL_more] at hx
    rw [e]
    rcases insM_mem _ _ _ _ _ hx with hx | hx
    · rw [hx]; simp
    · exact List.mem_append_left _ (sortL_mem lt n _ (by simp; omega) x hx)

theorem open_here (l rest : List Int) (d : Int) (j : Nat) (h : j ≤ l.length) : atZ (openL l d j ++ rest) j = d := by
  unfold atZ openL
  simp [List.getD, List.getElem?_append, Nat.min_eq_left h]

theorem open_prev (l rest : List Int) (d : Int) (q : Nat) (h : q < l.length) : atZ (openL l d (q + 1) ++ rest) q = atZ l q := by
  have h1 := openL_at l d q h
  have h2 := openL_len l d (q + 1) (by omega)
  rw [← h1]
  unfold atZ
  simp only [List.getD, List.getElem?_append, show q < (openL l d (q + 1)).length by omega, if_true]

theorem open_swap (l rest : List Int) (d : Int) (q : Nat) (h : q < l.length) : ((openL l d (q + 1) ++ rest).set (q + 1) (atZ l q)).set q d = openL l d q ++ rest := by
  have h2 := openL_len l d (q + 1) (by omega)
  rw [List.set_append_left _ _ (by omega), openL_set l d _ (q + 1) (by omega), openL_down l d q h, List.set_append_left _ _ (by rw [openL_len _ _ _ (by omega)]; omega), openL_set l _ _ q (by omega)]

set_option maxRecDepth 100000 in
set_option maxHeartbeats 4000000 in
theorem insSort {w0 : World} {B g cp : Nat} {fs : List (Nat × Nat × Value)} (p2 p3 p4 : Value) (c : Int → Int → Int) (xs : List Int) (w : World) (hB : w0.heap.size ≤ B) (hfs : Bs B fs) (hH : Held w0 w fs)
    (hI : Ints w B (.slice (some ⟨g, 0, none⟩) xs.length cp) xs) (h20 : xs.length ≤ 20)
    (hC : ∀ W x y, x ∈ xs → y ∈ xs → Held w0 W fs → Calls Tryz.prog 234 #[.int .i64 x, .int .i64 y, p2, p3, p4] W (IntIs (c x y) W)) :
    Calls Tryz.prog 240 #[.slice (some ⟨g, 0, none⟩) xs.length cp, .int .i64 0, .int .i64 xs.length, .func (.func 234) #[] #[p2, p3, p4]] w
      fun e w' => e = .returned (.tuple #[]) ∧ Ints w' B (.slice (some ⟨g, 0, none⟩) xs.length cp) (sortL (fun x y => decide (c x y < 0)) xs) ∧ Held w0 w' fs := by
  have HH := Lib.hid hH; clear hH
  have HI := Lib.hid hI; clear hI
  have HC := Lib.hid hC; clear hC
  have HFS := Lib.hid hfs; clear hfs
  have HT := Lib.hid (sortL_take (fun x y => decide (c x y < 0)) xs)
  have HLEN := Lib.hid (fun i (hi : i ≤ xs.length) => sortL_len (fun x y => decide (c x y < 0)) i (xs.take i) (by simp; omega))
  have HMEM := Lib.hid (fun i x (h : x ∈ sortL (fun x y => decide (c x y < 0)) (xs.take i)) => List.mem_of_mem_take (sortL_mem _ _ _ rfl x h))
  have HZ := Lib.hid (show 1 ≤ xs.length → sortL (fun x y => decide (c x y < 0)) (xs.take 1) ++ xs.drop 1 = xs from fun h => by
    have := sortL_take (fun x y => decide (c x y < 0)) xs 0 h
    rw [this]
    show (insL _ _ (sortL _ [])) ++ _ = _
    have e : xs = atZ xs 0 :: xs.drop 1 := by rw [← atZ_get (by omega)]; exact (List.drop_eq_getElem_cons (i := 0) (by omega))
    conv => rhs; rw [e]
    rfl)
  have HF := Lib.hid (show sortL (fun x y => decide (c x y < 0)) (xs.take xs.length) = sortL (fun x y => decide (c x y < 0)) xs from by rw [List.take_length])
  obtain ⟨S, hS⟩ : ∃ S : Nat → List Int, S = fun i => sortL (fun x y => decide (c x y < 0)) (xs.take i) := ⟨_, rfl⟩
  have HS := Lib.hid hS; clear hS
  go_enter Tryz.func240, Tryz.ntmps240
  go_wp2_with fail
  go_loopw [8] (fun vi wr => ∃ i : Nat, 1 ≤ i ∧ (i ≤ xs.length ∨ xs.length = 0) ∧ vi = .int .i64 i ∧ Ints wr B (.slice (some ⟨g, 0, none⟩) xs.length cp) (S i ++ xs.drop i) ∧ Held w0 wr fs) (fun i _ => xs.length - (intOf i).toNat)
  case atStart =>
    refine ⟨1, Nat.le_refl _, by omega, by go_num, ?_, HH.out⟩
    by_cases h1 : 1 ≤ xs.length
    · rw [HS.out, HZ.out h1]; exact HI.out
    · obtain rfl : xs = [] := List.eq_nil_of_length_eq_zero (by omega)
      rw [HS.out]; exact HI.out
  case round =>
    clear HH HI HZ
    obtain ⟨i, hi1, hin, rfl, hown, hh⟩ := hrel
    have HOWN := Lib.hid hown; clear hown
    have HH := Lib.hid hh; clear hh
    by_cases hlt : i < xs.length
    · have hz1 : (i : Int) < (xs.length : Int) := by omega
      have HTI := Lib.hid (HT.out i hlt)
      have hSl : (S i).length = i := by rw [HS.out]; exact HLEN.out i (by omega)
      have HSM := Lib.hid (show ∀ x, x ∈ S i → x ∈ xs from fun x hx => HMEM.out i x (by rw [HS.out] at hx; exact hx))
      have hdx : atZ xs i ∈ xs := by rw [← atZ_get hlt]; exact List.getElem_mem hlt
      have HNX := Lib.hid (show S (i + 1) = insL (fun x y => decide (c x y < 0)) (atZ xs i) (S i) from by rw [HS.out]; exact HTI.out)
      have hop : S i ++ xs.drop i = openL (S i) (atZ xs i) i ++ xs.drop (i + 1) := by
        have e1 : openL (S i) (atZ xs i) i = S i ++ [atZ xs i] := by have := openL_full (S i) (atZ xs i); rwa [hSl] at this
        rw [e1, List.append_assoc, List.drop_eq_getElem_cons hlt, atZ_get hlt]; rfl
      rw [hop] at HOWN
      have HR0 := Lib.hid (show insM (fun x y => decide (c x y < 0)) (atZ xs i) (S i) i = insL (fun x y => decide (c x y < 0)) (atZ xs i) (S i) from by unfold insL; rw [hSl])
      have HRL := Lib.hid (show (xs.drop (i + 1)).length + i + 1 = xs.length from by simp; omega)
      clear HTI hop
      generalize S i = l at *
      generalize atZ xs i = d at *
      obtain ⟨rest, hrest⟩ : ∃ r, xs.drop (i + 1) = r := ⟨_, rfl⟩
      rw [hrest] at HOWN HRL
      have HREST := Lib.hid hrest; clear hrest
      generalize insL (fun x y => decide (c x y < 0)) d l = R at *
      go_wp2_with fail
      go_loopw [9] (fun vj wr => ∃ j : Nat, j ≤ i ∧ vj = .int .i64 j ∧ Ints wr B (.slice (some ⟨g, 0, none⟩) xs.length cp) (openL l d j ++ rest) ∧ insM (fun x y => decide (c x y < 0)) d l j = R ∧ Held w0 wr fs) (fun i _ => (intOf i).toNat)
      case atStart => exact ⟨i, Nat.le_refl _, rfl, HOWN.out, HR0.out, HH.out⟩
      case round =>
        clear HOWN HH HR0
        obtain ⟨j, hji, rfl, hown, hR, hh⟩ := hrel
        have HOWN := Lib.hid hown; clear hown
        have HH := Lib.hid hh; clear hh
        have HOL := Lib.hid (show (openL l d j ++ rest).length = xs.length from by rw [List.length_append, openL_len l d j (by omega), hSl]; have := HRL.out; omega)
        obtain ⟨c0, f0, hgl, hgB, -⟩ := HOWN.out.at_ (j := j) (by rw [HOL.out]; omega)
        rw [open_here l rest d j (by omega)] at c0
        cases j with
        | zero =>
          have hfin : openL l d 0 ++ rest = R ++ rest := by rw [← hR, insM_zero]
          have HFIN := Lib.hid hfin; clear hfin
          have H2 := Lib.hid (show Held w0 wr [(g, 0, .int .i64 d)] from ⟨⟨c0, trivial⟩, ⟨hgl, trivial⟩, HH.out.below⟩)
          clear c0 f0
          rw [show ((0 : Nat) : Int) = 0 from rfl]
          obtain ⟨x0, _⟩ := H2.out.1
          go_wp2_with fail
          refine regionW (fun W => ((Held _ W [(g, 0, .int .i64 (d))]) ∧ Ints W B (.slice (some ⟨g, 0, none⟩) xs.length cp) (openL l d 0 ++ rest)) ∧ Held w0 W fs) (by kernel_rfl) ⟨⟨H2.out.drew, (HOWN.out).step ((Below.refl _ _).drew)⟩, (HH.out).step ((Below.refl _ _).drew)⟩ ?_
          refine takeW (i := 0) (v := ?_) (Stable.and (Stable.and (Stable.held _ _) (stable_ints B (.slice (some ⟨g, 0, none⟩) xs.length cp) (openL l d 0 ++ rest))) (Stable.held w0 fs)) rfl (by kernel_rfl) (by kernel_rfl) (by kernel_rfl) (fun _ _ _ h => h) ?_ ?_
          rotate_left
          · first | (refine Or.inl ⟨by rfl, fun W hS => detR_value (w' := W) ?_ (Below.refl _ _)⟩; obtain ⟨⟨hH, q1⟩, q2⟩ := hS; obtain ⟨x0, _⟩ := hH.1; go_simp; first | done | with_reducible rfl) | fail
          simp only [Act.put, List.setIfInBounds_toArray, List.set_cons_zero, List.set_cons_succ]
          refine takeW (i := 1) (v := ?_) (Stable.and (Stable.and (Stable.held _ _) (stable_ints B (.slice (some ⟨g, 0, none⟩) xs.length cp) (openL l d 0 ++ rest))) (Stable.held w0 fs)) rfl (by kernel_rfl) (by kernel_rfl) (by kernel_rfl) (fun _ _ _ h => h) ?_ ?_
          rotate_left
          · first | (refine Or.inl ⟨by rfl, fun W hS => detR_value (w' := W) ?_ (Below.refl _ _)⟩; obtain ⟨⟨hH, q1⟩, q2⟩ := hS; obtain ⟨x0, _⟩ := hH.1; go_simp; first | done | with_reducible rfl) | fail
          simp only [Act.put, List.setIfInBounds_toArray, List.set_cons_zero, List.set_cons_succ]
          refine takeW (i := 2) (v := ?_) (Stable.and (Stable.and (Stable.held _ _) (stable_ints B (.slice (some ⟨g, 0, none⟩) xs.length cp) (openL l d 0 ++ rest))) (Stable.held w0 fs)) rfl (by kernel_rfl) (by kernel_rfl) (by kernel_rfl) (fun _ _ _ h => h) ?_ ?_
          rotate_left
          · first | (refine Or.inl ⟨by rfl, fun W hS => detR_value (w' := W) ?_ (Below.refl _ _)⟩; obtain ⟨⟨hH, q1⟩, q2⟩ := hS; obtain ⟨x0, _⟩ := hH.1; go_simp; first | done | with_reducible rfl) | fail
          simp only [Act.put, List.setIfInBounds_toArray, List.set_cons_zero, List.set_cons_succ]
          refine takeW (i := 3) (v := ?_) (Stable.and (Stable.and (Stable.held _ _) (stable_ints B (.slice (some ⟨g, 0, none⟩) xs.length cp) (openL l d 0 ++ rest))) (Stable.held w0 fs)) rfl (by kernel_rfl) (by kernel_rfl) (by kernel_rfl) (fun _ _ _ h => h) ?_ ?_
          rotate_left
          · first | (refine Or.inl ⟨by rfl, fun W hS => detR_value (w' := W) ?_ (Below.refl _ _)⟩; obtain ⟨⟨hH, q1⟩, q2⟩ := hS; obtain ⟨x0, _⟩ := hH.1; go_simp; first | done | with_reducible rfl) | fail
          simp only [Act.put, List.setIfInBounds_toArray, List.set_cons_zero, List.set_cons_succ]
          refine takeW (i := 4) (v := ?_) (Stable.and (Stable.and (Stable.held _ _) (stable_ints B (.slice (some ⟨g, 0, none⟩) xs.length cp) (openL l d 0 ++ rest))) (Stable.held w0 fs)) rfl (by kernel_rfl) (by kernel_rfl) (by kernel_rfl) (fun _ _ _ h => h) ?_ ?_
          rotate_left
          · first | (refine Or.inr ⟨by rfl, ?_⟩; with_reducible rfl) | (refine Or.inl ⟨by rfl, fun W hS => detR_value (w' := W) ?_ (Below.refl _ _)⟩; obtain ⟨⟨hH, q1⟩, q2⟩ := hS; obtain ⟨x0, _⟩ := hH.1; go_simp; first | done | with_reducible rfl) | fail
          simp only [Act.put, List.setIfInBounds_toArray, List.set_cons_zero, List.set_cons_succ]
          refine takeW (i := 5) (v := ?_) (Stable.and (Stable.and (Stable.held _ _) (stable_ints B (.slice (some ⟨g, 0, none⟩) xs.length cp) (openL l d 0 ++ rest))) (Stable.held w0 fs)) rfl (by kernel_rfl) (by kernel_rfl) (by kernel_rfl) (fun _ _ _ h => h) ?_ ?_
          rotate_left
          · first | (refine Or.inr ⟨by rfl, ?_⟩; with_reducible rfl) | (refine Or.inl ⟨by rfl, fun W hS => detR_value (w' := W) ?_ (Below.refl _ _)⟩; obtain ⟨⟨hH, q1⟩, q2⟩ := hS; obtain ⟨x0, _⟩ := hH.1; go_simp; first | done | with_reducible rfl) | fail
          simp only [Act.put, List.setIfInBounds_toArray, List.set_cons_zero, List.set_cons_succ]
          refine takeW (i := 6) (v := ?_) (Stable.and (Stable.and (Stable.held _ _) (stable_ints B (.slice (some ⟨g, 0, none⟩) xs.length cp) (openL l d 0 ++ rest))) (Stable.held w0 fs)) rfl (by kernel_rfl) (by kernel_rfl) (by kernel_rfl) (fun _ _ _ h => h) ?_ ?_
          rotate_left
          · first | (refine Or.inr ⟨by rfl, ?_⟩; with_reducible rfl) | (refine Or.inl ⟨by rfl, fun W hS => detR_value (w' := W) ?_ (Below.refl _ _)⟩; obtain ⟨⟨hH, q1⟩, q2⟩ := hS; obtain ⟨x0, _⟩ := hH.1; go_simp; first | done | with_reducible rfl) | fail
          simp only [Act.put, List.setIfInBounds_toArray, List.set_cons_zero, List.set_cons_succ]
          refine takeW (i := 7) (v := ?_) (Stable.and (Stable.and (Stable.held _ _) (stable_ints B (.slice (some ⟨g, 0, none⟩) xs.length cp) (openL l d 0 ++ rest))) (Stable.held w0 fs)) rfl (by kernel_rfl) (by kernel_rfl) (by kernel_rfl) (fun _ _ _ h => h) ?_ ?_
          rotate_left
          · first | (refine Or.inr ⟨by rfl, ?_⟩; with_reducible rfl) | (refine Or.inl ⟨by rfl, fun W hS => detR_value (w' := W) ?_ (Below.refl _ _)⟩; obtain ⟨⟨hH, q1⟩, q2⟩ := hS; obtain ⟨x0, _⟩ := hH.1; go_simp; first | done | with_reducible rfl) | fail
          simp only [Act.put, List.setIfInBounds_toArray, List.set_cons_zero, List.set_cons_succ]
          refine takeW (i := 8) (v := ?_) (Stable.and (Stable.and (Stable.held _ _) (stable_ints B (.slice (some ⟨g, 0, none⟩) xs.length cp) (openL l d 0 ++ rest))) (Stable.held w0 fs)) rfl (by kernel_rfl) (by kernel_rfl) (by kernel_rfl) (fun _ _ _ h => h) ?_ ?_
          rotate_left
          · first | (refine Or.inr ⟨by rfl, ?_⟩; with_reducible rfl) | (refine Or.inl ⟨by rfl, fun W hS => detR_value (w' := W) ?_ (Below.refl _ _)⟩; obtain ⟨⟨hH, q1⟩, q2⟩ := hS; obtain ⟨x0, _⟩ := hH.1; go_simp; first | done | with_reducible rfl) | fail
          simp only [Act.put, List.setIfInBounds_toArray, List.set_cons_zero, List.set_cons_succ]
          refine takeW (i := 9) (v := ?_) (Stable.and (Stable.and (Stable.held _ _) (stable_ints B (.slice (some ⟨g, 0, none⟩) xs.length cp) (openL l d 0 ++ rest))) (Stable.held w0 fs)) rfl (by kernel_rfl) (by kernel_rfl) (by kernel_rfl) (fun _ _ _ h => h) ?_ ?_
          rotate_left
          · first | (refine Or.inr ⟨by rfl, ?_⟩; with_reducible rfl) | (refine Or.inl ⟨by rfl, fun W hS => detR_value (w' := W) ?_ (Below.refl _ _)⟩; obtain ⟨⟨hH, q1⟩, q2⟩ := hS; obtain ⟨x0, _⟩ := hH.1; go_simp; first | done | with_reducible rfl) | fail
          simp only [Act.put, List.setIfInBounds_toArray, List.set_cons_zero, List.set_cons_succ]
          refine takeW (i := 10) (v := ?_) (Stable.and (Stable.and (Stable.held _ _) (stable_ints B (.slice (some ⟨g, 0, none⟩) xs.length cp) (openL l d 0 ++ rest))) (Stable.held w0 fs)) rfl (by kernel_rfl) (by kernel_rfl) (by kernel_rfl) (fun _ _ _ h => h) ?_ ?_
          rotate_left
          · first | (refine Or.inr ⟨by rfl, ?_⟩; with_reducible rfl) | (refine Or.inl ⟨by rfl, fun W hS => detR_value (w' := W) ?_ (Below.refl _ _)⟩; obtain ⟨⟨hH, q1⟩, q2⟩ := hS; obtain ⟨x0, _⟩ := hH.1; go_simp; first | done | with_reducible rfl) | fail
          simp only [Act.put, List.setIfInBounds_toArray, List.set_cons_zero, List.set_cons_succ]
          refine takeW (i := 11) (v := ?_) (Stable.and (Stable.and (Stable.held _ _) (stable_ints B (.slice (some ⟨g, 0, none⟩) xs.length cp) (openL l d 0 ++ rest))) (Stable.held w0 fs)) rfl (by kernel_rfl) (by kernel_rfl) (by kernel_rfl) (fun _ _ _ h => h) ?_ ?_
          rotate_left
          · first | (refine Or.inr ⟨by rfl, ?_⟩; with_reducible rfl) | (refine Or.inl ⟨by rfl, fun W hS => detR_value (w' := W) ?_ (Below.refl _ _)⟩; obtain ⟨⟨hH, q1⟩, q2⟩ := hS; obtain ⟨x0, _⟩ := hH.1; go_simp; first | done | with_reducible rfl) | fail
          simp only [Act.put, List.setIfInBounds_toArray, List.set_cons_zero, List.set_cons_succ]
          refine takeW (i := 12) (v := ?_) (Stable.and (Stable.and (Stable.held _ _) (stable_ints B (.slice (some ⟨g, 0, none⟩) xs.length cp) (openL l d 0 ++ rest))) (Stable.held w0 fs)) rfl (by kernel_rfl) (by kernel_rfl) (by kernel_rfl) (fun _ _ _ h => h) ?_ ?_
          rotate_left
          · first | (refine Or.inr ⟨by rfl, ?_⟩; with_reducible rfl) | (refine Or.inl ⟨by rfl, fun W hS => detR_value (w' := W) ?_ (Below.refl _ _)⟩; obtain ⟨⟨hH, q1⟩, q2⟩ := hS; obtain ⟨x0, _⟩ := hH.1; go_simp; first | done | with_reducible rfl) | fail
          simp only [Act.put, List.setIfInBounds_toArray, List.set_cons_zero, List.set_cons_succ]
          refine takeW (i := 13) (v := ?_) (Stable.and (Stable.and (Stable.held _ _) (stable_ints B (.slice (some ⟨g, 0, none⟩) xs.length cp) (openL l d 0 ++ rest))) (Stable.held w0 fs)) rfl (by kernel_rfl) (by kernel_rfl) (by kernel_rfl) (fun _ _ _ h => h) ?_ ?_
          rotate_left
          · first | (refine Or.inr ⟨by rfl, ?_⟩; with_reducible rfl) | (refine Or.inl ⟨by rfl, fun W hS => detR_value (w' := W) ?_ (Below.refl _ _)⟩; obtain ⟨⟨hH, q1⟩, q2⟩ := hS; obtain ⟨x0, _⟩ := hH.1; go_simp; first | done | with_reducible rfl) | fail
          simp only [Act.put, List.setIfInBounds_toArray, List.set_cons_zero, List.set_cons_succ]
          refine takeW (i := 14) (v := ?_) (Stable.and (Stable.and (Stable.held _ _) (stable_ints B (.slice (some ⟨g, 0, none⟩) xs.length cp) (openL l d 0 ++ rest))) (Stable.held w0 fs)) rfl (by kernel_rfl) (by kernel_rfl) (by kernel_rfl) (fun _ _ _ h => h) ?_ ?_
          rotate_left
          · first | (refine Or.inr ⟨by rfl, ?_⟩; with_reducible rfl) | (refine Or.inl ⟨by rfl, fun W hS => ?_⟩; obtain ⟨⟨hH, q1⟩, q2⟩ := hS; refine detR_call (w' := W) (f := ?_) (args := ?_) ?_ ?_; rotate_left 2; (go_simp; (refine ⟨?_, ?_⟩ <;> with_reducible rfl)); (first | (with_reducible refine (HC.out W 0 0 hno hno q2).mono ?_) | fail); (first | (rintro e wn ⟨rfl, hb⟩; refine ⟨?_, hb⟩; with_reducible rfl) | (rintro e wn ⟨rfl, rfl⟩; refine ⟨?_, Below.refl _ _⟩; with_reducible rfl) | fail)) | fail
          simp only [Act.put, List.setIfInBounds_toArray, List.set_cons_zero, List.set_cons_succ]
          refine takeW (i := 15) (v := ?_) (Stable.and (Stable.and (Stable.held _ _) (stable_ints B (.slice (some ⟨g, 0, none⟩) xs.length cp) (openL l d 0 ++ rest))) (Stable.held w0 fs)) rfl (by kernel_rfl) (by kernel_rfl) (by kernel_rfl) (fun _ _ _ h => h) ?_ ?_
          rotate_left
          · first | (refine Or.inr ⟨by rfl, ?_⟩; with_reducible rfl) | (refine Or.inl ⟨by rfl, fun W hS => detR_value (w' := W) ?_ (Below.refl _ _)⟩; obtain ⟨⟨hH, q1⟩, q2⟩ := hS; obtain ⟨x0, _⟩ := hH.1; go_simp; first | done | with_reducible rfl) | fail
          simp only [Act.put, List.setIfInBounds_toArray, List.set_cons_zero, List.set_cons_succ]
          refine takeW (i := 16) (v := ?_) (Stable.and (Stable.and (Stable.held _ _) (stable_ints B (.slice (some ⟨g, 0, none⟩) xs.length cp) (openL l d 0 ++ rest))) (Stable.held w0 fs)) rfl (by kernel_rfl) (by kernel_rfl) (by kernel_rfl) (fun _ _ _ h => h) ?_ ?_
          rotate_left
          · first | (refine Or.inl ⟨by rfl, fun W hS => detR_value (w' := W) ?_ (Below.refl _ _)⟩; obtain ⟨⟨hH, q1⟩, q2⟩ := hS; obtain ⟨x0, _⟩ := hH.1; go_simp; first | done | with_reducible rfl) | fail
          simp only [Act.put, List.setIfInBounds_toArray, List.set_cons_zero, List.set_cons_succ]
          refine doneW (by kernel_rfl) fun wH3 HG => ?_
          obtain ⟨⟨hH, q1⟩, q2⟩ := HG
          have H3 := Lib.hid hH; clear hH
          have MH3_q1 := Lib.hid q1; clear q1
          have MH3_q2 := Lib.hid q2; clear q2
          try clear x0
          obtain ⟨x0, _⟩ := H3.out.1
          go_wp2_with fail
          exact ⟨⟨i + 1, by omega, .inl (by omega), by go_num, by rw [HNX.out, HREST.out, ← HFIN.out]; exact MH3_q1.out, MH3_q2.out⟩, by simp [intOf]; omega⟩
        | succ q =>
          obtain ⟨c1, f1, -, -, -⟩ := HOWN.out.at_ (j := q) (by rw [HOL.out]; omega)
          rw [open_prev l rest d q (by omega)] at c1
          have hlq : atZ l q ∈ xs := HSM.out _ (by rw [← atZ_get (by omega)]; exact List.getElem_mem (by omega))
          have HON := Lib.hid (insM_on (fun x y => decide (c x y < 0)) d l q)
          have HSTOP := Lib.hid (insM_stop (fun x y => decide (c x y < 0)) d l q)
          have HSW := Lib.hid (open_swap l rest d q (by omega))
          have HCC := Lib.hid (fun W h => HC.out W d (atZ l q) hdx hlq h)
          have HR1 := Lib.hid hR; clear hR hlq
          generalize hlqv : atZ l q = lq at *
          have HLQ := Lib.hid hlqv; clear hlqv
          have H2 := Lib.hid (show Held w0 wr [(g, q + 1, .int .i64 d), (g, q, .int .i64 lq)] from ⟨⟨c0, c1, trivial⟩, ⟨hgl, hgl, trivial⟩, HH.out.below⟩)
          clear c0 f0 c1 f1
          have p1 : (0 : Int) ≤ (q : Int) := by omega
          have p2' : (q : Int) < (xs.length : Int) := by omega
          have p3' : (q : Int) + 1 < (xs.length : Int) := by omega
          have p4' : (0 : Int) ≤ (q : Int) + 1 := by omega
          have p5 : (0 : Int) < (q : Int) + 1 := by omega
          have ew : IntKind.i64.wrap (q : Int) = (q : Int) := by rw [IntWalk.i64_in _ (by omega)]
          rw [show ((q + 1 : Nat) : Int) = (q : Int) + 1 from by omega]
          obtain ⟨x0, x1, _⟩ := H2.out.1
          by_cases hc : c d lq < 0
          · have HQ := Lib.hid hc
            generalize c d lq = cv at *
            go_wp2_with fail
            refine regionW (fun W => ((Held _ W [(g, q + 1, .int .i64 (d)), (g, q, .int .i64 (lq))]) ∧ Ints W B (.slice (some ⟨g, 0, none⟩) xs.length cp) (openL l d (q + 1) ++ rest)) ∧ Held w0 W fs) (by kernel_rfl) ⟨⟨H2.out.drew, (HOWN.out).step ((Below.refl _ _).drew)⟩, (HH.out).step ((Below.refl _ _).drew)⟩ ?_
            refine takeW (i := 0) (v := ?_) (Stable.and (Stable.and (Stable.held _ _) (stable_ints B (.slice (some ⟨g, 0, none⟩) xs.length cp) (openL l d (q + 1) ++ rest))) (Stable.held w0 fs)) rfl (by kernel_rfl) (by kernel_rfl) (by kernel_rfl) (fun _ _ _ h => h) ?_ ?_
            rotate_left
            · first | (refine Or.inl ⟨by rfl, fun W hS => detR_value (w' := W) ?_ (Below.refl _ _)⟩; obtain ⟨⟨hH, q1⟩, q2⟩ := hS; obtain ⟨x0, x1, _⟩ := hH.1; go_simp; first | done | with_reducible rfl) | fail
            simp only [Act.put, List.setIfInBounds_toArray, List.set_cons_zero, List.set_cons_succ]
            refine takeW (i := 1) (v := ?_) (Stable.and (Stable.and (Stable.held _ _) (stable_ints B (.slice (some ⟨g, 0, none⟩) xs.length cp) (openL l d (q + 1) ++ rest))) (Stable.held w0 fs)) rfl (by kernel_rfl) (by kernel_rfl) (by kernel_rfl) (fun _ _ _ h => h) ?_ ?_
            rotate_left
            · first | (refine Or.inl ⟨by rfl, fun W hS => detR_value (w' := W) ?_ (Below.refl _ _)⟩; obtain ⟨⟨hH, q1⟩, q2⟩ := hS; obtain ⟨x0, x1, _⟩ := hH.1; go_simp; first | done | with_reducible rfl) | fail
            simp only [Act.put, List.setIfInBounds_toArray, List.set_cons_zero, List.set_cons_succ]
            refine takeW (i := 2) (v := ?_) (Stable.and (Stable.and (Stable.held _ _) (stable_ints B (.slice (some ⟨g, 0, none⟩) xs.length cp) (openL l d (q + 1) ++ rest))) (Stable.held w0 fs)) rfl (by kernel_rfl) (by kernel_rfl) (by kernel_rfl) (fun _ _ _ h => h) ?_ ?_
            rotate_left
            · first | (refine Or.inl ⟨by rfl, fun W hS => detR_value (w' := W) ?_ (Below.refl _ _)⟩; obtain ⟨⟨hH, q1⟩, q2⟩ := hS; obtain ⟨x0, x1, _⟩ := hH.1; go_simp; first | done | with_reducible rfl) | fail
            simp only [Act.put, List.setIfInBounds_toArray, List.set_cons_zero, List.set_cons_succ]
            refine takeW (i := 3) (v := ?_) (Stable.and (Stable.and (Stable.held _ _) (stable_ints B (.slice (some ⟨g, 0, none⟩) xs.length cp) (openL l d (q + 1) ++ rest))) (Stable.held w0 fs)) rfl (by kernel_rfl) (by kernel_rfl) (by kernel_rfl) (fun _ _ _ h => h) ?_ ?_
            rotate_left
            · first | (refine Or.inl ⟨by rfl, fun W hS => detR_value (w' := W) ?_ (Below.refl _ _)⟩; obtain ⟨⟨hH, q1⟩, q2⟩ := hS; obtain ⟨x0, x1, _⟩ := hH.1; go_simp; first | done | with_reducible rfl) | fail
            simp only [Act.put, List.setIfInBounds_toArray, List.set_cons_zero, List.set_cons_succ]
            refine takeW (i := 4) (v := ?_) (Stable.and (Stable.and (Stable.held _ _) (stable_ints B (.slice (some ⟨g, 0, none⟩) xs.length cp) (openL l d (q + 1) ++ rest))) (Stable.held w0 fs)) rfl (by kernel_rfl) (by kernel_rfl) (by kernel_rfl) (fun _ _ _ h => h) ?_ ?_
            rotate_left
            · first | (refine Or.inr ⟨by rfl, ?_⟩; with_reducible rfl) | (refine Or.inl ⟨by rfl, fun W hS => detR_value (w' := W) ?_ (Below.refl _ _)⟩; obtain ⟨⟨hH, q1⟩, q2⟩ := hS; obtain ⟨x0, x1, _⟩ := hH.1; go_simp; first | done | with_reducible rfl) | fail
            simp only [Act.put, List.setIfInBounds_toArray, List.set_cons_zero, List.set_cons_succ]
            refine takeW (i := 5) (v := ?_) (Stable.and (Stable.and (Stable.held _ _) (stable_ints B (.slice (some ⟨g, 0, none⟩) xs.length cp) (openL l d (q + 1) ++ rest))) (Stable.held w0 fs)) rfl (by kernel_rfl) (by kernel_rfl) (by kernel_rfl) (fun _ _ _ h => h) ?_ ?_
            rotate_left
            · first | (refine Or.inr ⟨by rfl, ?_⟩; with_reducible rfl) | (refine Or.inl ⟨by rfl, fun W hS => detR_value (w' := W) ?_ (Below.refl _ _)⟩; obtain ⟨⟨hH, q1⟩, q2⟩ := hS; obtain ⟨x0, x1, _⟩ := hH.1; go_simp; first | done | with_reducible rfl) | fail
            simp only [Act.put, List.setIfInBounds_toArray, List.set_cons_zero, List.set_cons_succ]
            refine takeW (i := 6) (v := ?_) (Stable.and (Stable.and (Stable.held _ _) (stable_ints B (.slice (some ⟨g, 0, none⟩) xs.length cp) (openL l d (q + 1) ++ rest))) (Stable.held w0 fs)) rfl (by kernel_rfl) (by kernel_rfl) (by kernel_rfl) (fun _ _ _ h => h) ?_ ?_
            rotate_left
            · first | (refine Or.inr ⟨by rfl, ?_⟩; with_reducible rfl) | (refine Or.inl ⟨by rfl, fun W hS => detR_value (w' := W) ?_ (Below.refl _ _)⟩; obtain ⟨⟨hH, q1⟩, q2⟩ := hS; obtain ⟨x0, x1, _⟩ := hH.1; go_simp; first | done | with_reducible rfl) | fail
            simp only [Act.put, List.setIfInBounds_toArray, List.set_cons_zero, List.set_cons_succ]
            refine takeW (i := 7) (v := ?_) (Stable.and (Stable.and (Stable.held _ _) (stable_ints B (.slice (some ⟨g, 0, none⟩) xs.length cp) (openL l d (q + 1) ++ rest))) (Stable.held w0 fs)) rfl (by kernel_rfl) (by kernel_rfl) (by kernel_rfl) (fun _ _ _ h => h) ?_ ?_
            rotate_left
            · first | (refine Or.inr ⟨by rfl, ?_⟩; with_reducible rfl) | (refine Or.inl ⟨by rfl, fun W hS => detR_value (w' := W) ?_ (Below.refl _ _)⟩; obtain ⟨⟨hH, q1⟩, q2⟩ := hS; obtain ⟨x0, x1, _⟩ := hH.1; go_simp; first | done | with_reducible rfl) | fail
            simp only [Act.put, List.setIfInBounds_toArray, List.set_cons_zero, List.set_cons_succ]
            refine takeW (i := 8) (v := ?_) (Stable.and (Stable.and (Stable.held _ _) (stable_ints B (.slice (some ⟨g, 0, none⟩) xs.length cp) (openL l d (q + 1) ++ rest))) (Stable.held w0 fs)) rfl (by kernel_rfl) (by kernel_rfl) (by kernel_rfl) (fun _ _ _ h => h) ?_ ?_
            rotate_left
            · first | (refine Or.inr ⟨by rfl, ?_⟩; with_reducible rfl) | (refine Or.inl ⟨by rfl, fun W hS => detR_value (w' := W) ?_ (Below.refl _ _)⟩; obtain ⟨⟨hH, q1⟩, q2⟩ := hS; obtain ⟨x0, x1, _⟩ := hH.1; go_simp; first | done | with_reducible rfl) | fail
            simp only [Act.put, List.setIfInBounds_toArray, List.set_cons_zero, List.set_cons_succ]
            refine takeW (i := 9) (v := ?_) (Stable.and (Stable.and (Stable.held _ _) (stable_ints B (.slice (some ⟨g, 0, none⟩) xs.length cp) (openL l d (q + 1) ++ rest))) (Stable.held w0 fs)) rfl (by kernel_rfl) (by kernel_rfl) (by kernel_rfl) (fun _ _ _ h => h) ?_ ?_
            rotate_left
            · first | (refine Or.inr ⟨by rfl, ?_⟩; with_reducible rfl) | (refine Or.inl ⟨by rfl, fun W hS => detR_value (w' := W) ?_ (Below.refl _ _)⟩; obtain ⟨⟨hH, q1⟩, q2⟩ := hS; obtain ⟨x0, x1, _⟩ := hH.1; go_simp; first | done | with_reducible rfl) | fail
            simp only [Act.put, List.setIfInBounds_toArray, List.set_cons_zero, List.set_cons_succ]
            refine takeW (i := 10) (v := ?_) (Stable.and (Stable.and (Stable.held _ _) (stable_ints B (.slice (some ⟨g, 0, none⟩) xs.length cp) (openL l d (q + 1) ++ rest))) (Stable.held w0 fs)) rfl (by kernel_rfl) (by kernel_rfl) (by kernel_rfl) (fun _ _ _ h => h) ?_ ?_
            rotate_left
            · first | (refine Or.inr ⟨by rfl, ?_⟩; with_reducible rfl) | (refine Or.inl ⟨by rfl, fun W hS => detR_value (w' := W) ?_ (Below.refl _ _)⟩; obtain ⟨⟨hH, q1⟩, q2⟩ := hS; obtain ⟨x0, x1, _⟩ := hH.1; go_simp; first | done | with_reducible rfl) | fail
            simp only [Act.put, List.setIfInBounds_toArray, List.set_cons_zero, List.set_cons_succ]
            refine takeW (i := 11) (v := ?_) (Stable.and (Stable.and (Stable.held _ _) (stable_ints B (.slice (some ⟨g, 0, none⟩) xs.length cp) (openL l d (q + 1) ++ rest))) (Stable.held w0 fs)) rfl (by kernel_rfl) (by kernel_rfl) (by kernel_rfl) (fun _ _ _ h => h) ?_ ?_
            rotate_left
            · first | (refine Or.inr ⟨by rfl, ?_⟩; with_reducible rfl) | (refine Or.inl ⟨by rfl, fun W hS => detR_value (w' := W) ?_ (Below.refl _ _)⟩; obtain ⟨⟨hH, q1⟩, q2⟩ := hS; obtain ⟨x0, x1, _⟩ := hH.1; go_simp; first | done | with_reducible rfl) | fail
            simp only [Act.put, List.setIfInBounds_toArray, List.set_cons_zero, List.set_cons_succ]
            refine takeW (i := 12) (v := ?_) (Stable.and (Stable.and (Stable.held _ _) (stable_ints B (.slice (some ⟨g, 0, none⟩) xs.length cp) (openL l d (q + 1) ++ rest))) (Stable.held w0 fs)) rfl (by kernel_rfl) (by kernel_rfl) (by kernel_rfl) (fun _ _ _ h => h) ?_ ?_
            rotate_left
            · first | (refine Or.inr ⟨by rfl, ?_⟩; with_reducible rfl) | (refine Or.inl ⟨by rfl, fun W hS => detR_value (w' := W) ?_ (Below.refl _ _)⟩; obtain ⟨⟨hH, q1⟩, q2⟩ := hS; obtain ⟨x0, x1, _⟩ := hH.1; go_simp; first | done | with_reducible rfl) | fail
            simp only [Act.put, List.setIfInBounds_toArray, List.set_cons_zero, List.set_cons_succ]
            refine takeW (i := 13) (v := ?_) (Stable.and (Stable.and (Stable.held _ _) (stable_ints B (.slice (some ⟨g, 0, none⟩) xs.length cp) (openL l d (q + 1) ++ rest))) (Stable.held w0 fs)) rfl (by kernel_rfl) (by kernel_rfl) (by kernel_rfl) (fun _ _ _ h => h) ?_ ?_
            rotate_left
            · first | (refine Or.inr ⟨by rfl, ?_⟩; with_reducible rfl) | (refine Or.inl ⟨by rfl, fun W hS => detR_value (w' := W) ?_ (Below.refl _ _)⟩; obtain ⟨⟨hH, q1⟩, q2⟩ := hS; obtain ⟨x0, x1, _⟩ := hH.1; go_simp; first | done | with_reducible rfl) | fail
            simp only [Act.put, List.setIfInBounds_toArray, List.set_cons_zero, List.set_cons_succ]
            refine takeW (i := 14) (v := ?_) (Stable.and (Stable.and (Stable.held _ _) (stable_ints B (.slice (some ⟨g, 0, none⟩) xs.length cp) (openL l d (q + 1) ++ rest))) (Stable.held w0 fs)) rfl (by kernel_rfl) (by kernel_rfl) (by kernel_rfl) (fun _ _ _ h => h) ?_ ?_
            rotate_left
            · first | (refine Or.inr ⟨by rfl, ?_⟩; with_reducible rfl) | (refine Or.inl ⟨by rfl, fun W hS => ?_⟩; obtain ⟨⟨hH, q1⟩, q2⟩ := hS; refine detR_call (w' := W) (f := ?_) (args := ?_) ?_ ?_; rotate_left 2; (go_simp; (refine ⟨?_, ?_⟩ <;> with_reducible rfl)); (first | (with_reducible refine (HCC.out W q2).mono ?_) | fail); (first | (rintro e wn ⟨rfl, hb⟩; refine ⟨?_, hb⟩; with_reducible rfl) | (rintro e wn ⟨rfl, rfl⟩; refine ⟨?_, Below.refl _ _⟩; with_reducible rfl) | fail)) | fail
            simp only [Act.put, List.setIfInBounds_toArray, List.set_cons_zero, List.set_cons_succ]
            refine takeW (i := 15) (v := ?_) (Stable.and (Stable.and (Stable.held _ _) (stable_ints B (.slice (some ⟨g, 0, none⟩) xs.length cp) (openL l d (q + 1) ++ rest))) (Stable.held w0 fs)) rfl (by kernel_rfl) (by kernel_rfl) (by kernel_rfl) (fun _ _ _ h => h) ?_ ?_
            rotate_left
            · first | (refine Or.inr ⟨by rfl, ?_⟩; with_reducible rfl) | (refine Or.inl ⟨by rfl, fun W hS => detR_value (w' := W) ?_ (Below.refl _ _)⟩; obtain ⟨⟨hH, q1⟩, q2⟩ := hS; obtain ⟨x0, x1, _⟩ := hH.1; go_simp; first | done | with_reducible rfl) | fail
            simp only [Act.put, List.setIfInBounds_toArray, List.set_cons_zero, List.set_cons_succ]
            refine takeW (i := 16) (v := ?_) (Stable.and (Stable.and (Stable.held _ _) (stable_ints B (.slice (some ⟨g, 0, none⟩) xs.length cp) (openL l d (q + 1) ++ rest))) (Stable.held w0 fs)) rfl (by kernel_rfl) (by kernel_rfl) (by kernel_rfl) (fun _ _ _ h => h) ?_ ?_
            rotate_left
            · first | (refine Or.inl ⟨by rfl, fun W hS => detR_value (w' := W) ?_ (Below.refl _ _)⟩; obtain ⟨⟨hH, q1⟩, q2⟩ := hS; obtain ⟨x0, x1, _⟩ := hH.1; go_simp; first | done | with_reducible rfl) | fail
            simp only [Act.put, List.setIfInBounds_toArray, List.set_cons_zero, List.set_cons_succ]
            refine doneW (by kernel_rfl) fun wH3 HG => ?_
            obtain ⟨⟨hH, q1⟩, q2⟩ := HG
            have H3 := Lib.hid hH; clear hH
            have MH3_q1 := Lib.hid q1; clear q1
            have MH3_q2 := Lib.hid q2; clear q2
            try clear x0 x1
            obtain ⟨x0, x1, _⟩ := H3.out.1
            go_wp2_with fail
            obtain ⟨-, f1, hgl3, -, -⟩ := MH3_q1.out.at_ (j := q + 1) (by rw [HOL.out]; omega)
            obtain ⟨-, f0, -, -, -⟩ := MH3_q1.out.at_ (j := q) (by rw [HOL.out]; omega)
            obtain ⟨j1, hj1⟩ : ∃ j1, j1 = q + 1 := ⟨_, rfl⟩
            have e0 : ((q : Int) + 1).toNat = j1 := by omega
            rw [← hj1] at x0 f1
            have J1 := Lib.hid hj1; clear hj1
            go_big_region
            all_goals go_wp2_with fail
            have hs1 := MH3_q1.out.set_ HOL.out.symm (q + 1) lq
            have hs2 := hs1.set_ (by rw [List.length_set]; exact HOL.out.symm) q d
            rw [HSW.out] at hs2
            have HS2 := Lib.hid (hs2.step ((Below.refl _ _).drew))
            have HH2 := Lib.hid (((MH3_q2.out.setB (j := q + 1) (x := .int .i64 lq) HFS.out hgB hB).setB (j := q) (x := .int .i64 d) HFS.out hgB hB).drew)
            have HN := Lib.hid (HON.out (decide_eq_true HQ.out))
            clear hs1 hs2
            rw [J1.out]
            exact ⟨⟨q, by omega, rfl, HS2.out, HN.out.symm.trans HR1.out, HH2.out⟩, by simp [intOf]⟩
          · have HQ := Lib.hid hc
            have hc2 : ¬ c d lq < 0 := hc
            generalize c d lq = cv at *
            go_wp2_with fail
            refine regionW (fun W => ((Held _ W [(g, q + 1, .int .i64 (d)), (g, q, .int .i64 (lq))]) ∧ Ints W B (.slice (some ⟨g, 0, none⟩) xs.length cp) (openL l d (q + 1) ++ rest)) ∧ Held w0 W fs) (by kernel_rfl) ⟨⟨H2.out.drew, (HOWN.out).step ((Below.refl _ _).drew)⟩, (HH.out).step ((Below.refl _ _).drew)⟩ ?_
            refine takeW (i := 0) (v := ?_) (Stable.and (Stable.and (Stable.held _ _) (stable_ints B (.slice (some ⟨g, 0, none⟩) xs.length cp) (openL l d (q + 1) ++ rest))) (Stable.held w0 fs)) rfl (by kernel_rfl) (by kernel_rfl) (by kernel_rfl) (fun _ _ _ h => h) ?_ ?_
            rotate_left
            · first | (refine Or.inl ⟨by rfl, fun W hS => detR_value (w' := W) ?_ (Below.refl _ _)⟩; obtain ⟨⟨hH, q1⟩, q2⟩ := hS; obtain ⟨x0, x1, _⟩ := hH.1; go_simp; first | done | with_reducible rfl) | fail
            simp only [Act.put, List.setIfInBounds_toArray, List.set_cons_zero, List.set_cons_succ]
            refine takeW (i := 1) (v := ?_) (Stable.and (Stable.and (Stable.held _ _) (stable_ints B (.slice (some ⟨g, 0, none⟩) xs.length cp) (openL l d (q + 1) ++ rest))) (Stable.held w0 fs)) rfl (by kernel_rfl) (by kernel_rfl) (by kernel_rfl) (fun _ _ _ h => h) ?_ ?_
            rotate_left
            · first | (refine Or.inl ⟨by rfl, fun W hS => detR_value (w' := W) ?_ (Below.refl _ _)⟩; obtain ⟨⟨hH, q1⟩, q2⟩ := hS; obtain ⟨x0, x1, _⟩ := hH.1; go_simp; first | done | with_reducible rfl) | fail
            simp only [Act.put, List.setIfInBounds_toArray, List.set_cons_zero, List.set_cons_succ]
            refine takeW (i := 2) (v := ?_) (Stable.and (Stable.and (Stable.held _ _) (stable_ints B (.slice (some ⟨g, 0, none⟩) xs.length cp) (openL l d (q + 1) ++ rest))) (Stable.held w0 fs)) rfl (by kernel_rfl) (by kernel_rfl) (by kernel_rfl) (fun _ _ _ h => h) ?_ ?_
            rotate_left
            · first | (refine Or.inl ⟨by rfl, fun W hS => detR_value (w' := W) ?_ (Below.refl _ _)⟩; obtain ⟨⟨hH, q1⟩, q2⟩ := hS; obtain ⟨x0, x1, _⟩ := hH.1; go_simp; first | done | with_reducible rfl) | fail
            simp only [Act.put, List.setIfInBounds_toArray, List.set_cons_zero, List.set_cons_succ]
            refine takeW (i := 3) (v := ?_) (Stable.and (Stable.and (Stable.held _ _) (stable_ints B (.slice (some ⟨g, 0, none⟩) xs.length cp) (openL l d (q + 1) ++ rest))) (Stable.held w0 fs)) rfl (by kernel_rfl) (by kernel_rfl) (by kernel_rfl) (fun _ _ _ h => h) ?_ ?_
            rotate_left
            · first | (refine Or.inl ⟨by rfl, fun W hS => detR_value (w' := W) ?_ (Below.refl _ _)⟩; obtain ⟨⟨hH, q1⟩, q2⟩ := hS; obtain ⟨x0, x1, _⟩ := hH.1; go_simp; first | done | with_reducible rfl) | fail
            simp only [Act.put, List.setIfInBounds_toArray, List.set_cons_zero, List.set_cons_succ]
            refine takeW (i := 4) (v := ?_) (Stable.and (Stable.and (Stable.held _ _) (stable_ints B (.slice (some ⟨g, 0, none⟩) xs.length cp) (openL l d (q + 1) ++ rest))) (Stable.held w0 fs)) rfl (by kernel_rfl) (by kernel_rfl) (by kernel_rfl) (fun _ _ _ h => h) ?_ ?_
            rotate_left
            · first | (refine Or.inr ⟨by rfl, ?_⟩; with_reducible rfl) | (refine Or.inl ⟨by rfl, fun W hS => detR_value (w' := W) ?_ (Below.refl _ _)⟩; obtain ⟨⟨hH, q1⟩, q2⟩ := hS; obtain ⟨x0, x1, _⟩ := hH.1; go_simp; first | done | with_reducible rfl) | fail
            simp only [Act.put, List.setIfInBounds_toArray, List.set_cons_zero, List.set_cons_succ]
            refine takeW (i := 5) (v := ?_) (Stable.and (Stable.and (Stable.held _ _) (stable_ints B (.slice (some ⟨g, 0, none⟩) xs.length cp) (openL l d (q + 1) ++ rest))) (Stable.held w0 fs)) rfl (by kernel_rfl) (by kernel_rfl) (by kernel_rfl) (fun _ _ _ h => h) ?_ ?_
            rotate_left
            · first | (refine Or.inr ⟨by rfl, ?_⟩; with_reducible rfl) | (refine Or.inl ⟨by rfl, fun W hS => detR_value (w' := W) ?_ (Below.refl _ _)⟩; obtain ⟨⟨hH, q1⟩, q2⟩ := hS; obtain ⟨x0, x1, _⟩ := hH.1; go_simp; first | done | with_reducible rfl) | fail
            simp only [Act.put, List.setIfInBounds_toArray, List.set_cons_zero, List.set_cons_succ]
            refine takeW (i := 6) (v := ?_) (Stable.and (Stable.and (Stable.held _ _) (stable_ints B (.slice (some ⟨g, 0, none⟩) xs.length cp) (openL l d (q + 1) ++ rest))) (Stable.held w0 fs)) rfl (by kernel_rfl) (by kernel_rfl) (by kernel_rfl) (fun _ _ _ h => h) ?_ ?_
            rotate_left
            · first | (refine Or.inr ⟨by rfl, ?_⟩; with_reducible rfl) | (refine Or.inl ⟨by rfl, fun W hS => detR_value (w' := W) ?_ (Below.refl _ _)⟩; obtain ⟨⟨hH, q1⟩, q2⟩ := hS; obtain ⟨x0, x1, _⟩ := hH.1; go_simp; first | done | with_reducible rfl) | fail
            simp only [Act.put, List.setIfInBounds_toArray, List.set_cons_zero, List.set_cons_succ]
            refine takeW (i := 7) (v := ?_) (Stable.and (Stable.and (Stable.held _ _) (stable_ints B (.slice (some ⟨g, 0, none⟩) xs.length cp) (openL l d (q + 1) ++ rest))) (Stable.held w0 fs)) rfl (by kernel_rfl) (by kernel_rfl) (by kernel_rfl) (fun _ _ _ h => h) ?_ ?_
            rotate_left
            · first | (refine Or.inr ⟨by rfl, ?_⟩; with_reducible rfl) | (refine Or.inl ⟨by rfl, fun W hS => detR_value (w' := W) ?_ (Below.refl _ _)⟩; obtain ⟨⟨hH, q1⟩, q2⟩ := hS; obtain ⟨x0, x1, _⟩ := hH.1; go_simp; first | done | with_reducible rfl) | fail
            simp only [Act.put, List.setIfInBounds_toArray, List.set_cons_zero, List.set_cons_succ]
            refine takeW (i := 8) (v := ?_) (Stable.and (Stable.and (Stable.held _ _) (stable_ints B (.slice (some ⟨g, 0, none⟩) xs.length cp) (openL l d (q + 1) ++ rest))) (Stable.held w0 fs)) rfl (by kernel_rfl) (by kernel_rfl) (by kernel_rfl) (fun _ _ _ h => h) ?_ ?_
            rotate_left
            · first | (refine Or.inr ⟨by rfl, ?_⟩; with_reducible rfl) | (refine Or.inl ⟨by rfl, fun W hS => detR_value (w' := W) ?_ (Below.refl _ _)⟩; obtain ⟨⟨hH, q1⟩, q2⟩ := hS; obtain ⟨x0, x1, _⟩ := hH.1; go_simp; first | done | with_reducible rfl) | fail
            simp only [Act.put, List.setIfInBounds_toArray, List.set_cons_zero, List.set_cons_succ]
            refine takeW (i := 9) (v := ?_) (Stable.and (Stable.and (Stable.held _ _) (stable_ints B (.slice (some ⟨g, 0, none⟩) xs.length cp) (openL l d (q + 1) ++ rest))) (Stable.held w0 fs)) rfl (by kernel_rfl) (by kernel_rfl) (by kernel_rfl) (fun _ _ _ h => h) ?_ ?_
            rotate_left
            · first | (refine Or.inr ⟨by rfl, ?_⟩; with_reducible rfl) | (refine Or.inl ⟨by rfl, fun W hS => detR_value (w' := W) ?_ (Below.refl _ _)⟩; obtain ⟨⟨hH, q1⟩, q2⟩ := hS; obtain ⟨x0, x1, _⟩ := hH.1; go_simp; first | done | with_reducible rfl) | fail
            simp only [Act.put, List.setIfInBounds_toArray, List.set_cons_zero, List.set_cons_succ]
            refine takeW (i := 10) (v := ?_) (Stable.and (Stable.and (Stable.held _ _) (stable_ints B (.slice (some ⟨g, 0, none⟩) xs.length cp) (openL l d (q + 1) ++ rest))) (Stable.held w0 fs)) rfl (by kernel_rfl) (by kernel_rfl) (by kernel_rfl) (fun _ _ _ h => h) ?_ ?_
            rotate_left
            · first | (refine Or.inr ⟨by rfl, ?_⟩; with_reducible rfl) | (refine Or.inl ⟨by rfl, fun W hS => detR_value (w' := W) ?_ (Below.refl _ _)⟩; obtain ⟨⟨hH, q1⟩, q2⟩ := hS; obtain ⟨x0, x1, _⟩ := hH.1; go_simp; first | done | with_reducible rfl) | fail
            simp only [Act.put, List.setIfInBounds_toArray, List.set_cons_zero, List.set_cons_succ]
            refine takeW (i := 11) (v := ?_) (Stable.and (Stable.and (Stable.held _ _) (stable_ints B (.slice (some ⟨g, 0, none⟩) xs.length cp) (openL l d (q + 1) ++ rest))) (Stable.held w0 fs)) rfl (by kernel_rfl) (by kernel_rfl) (by kernel_rfl) (fun _ _ _ h => h) ?_ ?_
            rotate_left
            · first | (refine Or.inr ⟨by rfl, ?_⟩; with_reducible rfl) | (refine Or.inl ⟨by rfl, fun W hS => detR_value (w' := W) ?_ (Below.refl _ _)⟩; obtain ⟨⟨hH, q1⟩, q2⟩ := hS; obtain ⟨x0, x1, _⟩ := hH.1; go_simp; first | done | with_reducible rfl) | fail
            simp only [Act.put, List.setIfInBounds_toArray, List.set_cons_zero, List.set_cons_succ]
            refine takeW (i := 12) (v := ?_) (Stable.and (Stable.and (Stable.held _ _) (stable_ints B (.slice (some ⟨g, 0, none⟩) xs.length cp) (openL l d (q + 1) ++ rest))) (Stable.held w0 fs)) rfl (by kernel_rfl) (by kernel_rfl) (by kernel_rfl) (fun _ _ _ h => h) ?_ ?_
            rotate_left
            · first | (refine Or.inr ⟨by rfl, ?_⟩; with_reducible rfl) | (refine Or.inl ⟨by rfl, fun W hS => detR_value (w' := W) ?_ (Below.refl _ _)⟩; obtain ⟨⟨hH, q1⟩, q2⟩ := hS; obtain ⟨x0, x1, _⟩ := hH.1; go_simp; first | done | with_reducible rfl) | fail
            simp only [Act.put, List.setIfInBounds_toArray, List.set_cons_zero, List.set_cons_succ]
            refine takeW (i := 13) (v := ?_) (Stable.and (Stable.and (Stable.held _ _) (stable_ints B (.slice (some ⟨g, 0, none⟩) xs.length cp) (openL l d (q + 1) ++ rest))) (Stable.held w0 fs)) rfl (by kernel_rfl) (by kernel_rfl) (by kernel_rfl) (fun _ _ _ h => h) ?_ ?_
            rotate_left
            · first | (refine Or.inr ⟨by rfl, ?_⟩; with_reducible rfl) | (refine Or.inl ⟨by rfl, fun W hS => detR_value (w' := W) ?_ (Below.refl _ _)⟩; obtain ⟨⟨hH, q1⟩, q2⟩ := hS; obtain ⟨x0, x1, _⟩ := hH.1; go_simp; first | done | with_reducible rfl) | fail
            simp only [Act.put, List.setIfInBounds_toArray, List.set_cons_zero, List.set_cons_succ]
            refine takeW (i := 14) (v := ?_) (Stable.and (Stable.and (Stable.held _ _) (stable_ints B (.slice (some ⟨g, 0, none⟩) xs.length cp) (openL l d (q + 1) ++ rest))) (Stable.held w0 fs)) rfl (by kernel_rfl) (by kernel_rfl) (by kernel_rfl) (fun _ _ _ h => h) ?_ ?_
            rotate_left
            · first | (refine Or.inr ⟨by rfl, ?_⟩; with_reducible rfl) | (refine Or.inl ⟨by rfl, fun W hS => ?_⟩; obtain ⟨⟨hH, q1⟩, q2⟩ := hS; refine detR_call (w' := W) (f := ?_) (args := ?_) ?_ ?_; rotate_left 2; (go_simp; (refine ⟨?_, ?_⟩ <;> with_reducible rfl)); (first | (with_reducible refine (HCC.out W q2).mono ?_) | fail); (first | (rintro e wn ⟨rfl, hb⟩; refine ⟨?_, hb⟩; with_reducible rfl) | (rintro e wn ⟨rfl, rfl⟩; refine ⟨?_, Below.refl _ _⟩; with_reducible rfl) | fail)) | fail
            simp only [Act.put, List.setIfInBounds_toArray, List.set_cons_zero, List.set_cons_succ]
            refine takeW (i := 15) (v := ?_) (Stable.and (Stable.and (Stable.held _ _) (stable_ints B (.slice (some ⟨g, 0, none⟩) xs.length cp) (openL l d (q + 1) ++ rest))) (Stable.held w0 fs)) rfl (by kernel_rfl) (by kernel_rfl) (by kernel_rfl) (fun _ _ _ h => h) ?_ ?_
            rotate_left
            · first | (refine Or.inr ⟨by rfl, ?_⟩; with_reducible rfl) | (refine Or.inl ⟨by rfl, fun W hS => detR_value (w' := W) ?_ (Below.refl _ _)⟩; obtain ⟨⟨hH, q1⟩, q2⟩ := hS; obtain ⟨x0, x1, _⟩ := hH.1; go_simp; first | done | with_reducible rfl) | fail
            simp only [Act.put, List.setIfInBounds_toArray, List.set_cons_zero, List.set_cons_succ]
            refine takeW (i := 16) (v := ?_) (Stable.and (Stable.and (Stable.held _ _) (stable_ints B (.slice (some ⟨g, 0, none⟩) xs.length cp) (openL l d (q + 1) ++ rest))) (Stable.held w0 fs)) rfl (by kernel_rfl) (by kernel_rfl) (by kernel_rfl) (fun _ _ _ h => h) ?_ ?_
            rotate_left
            · first | (refine Or.inl ⟨by rfl, fun W hS => detR_value (w' := W) ?_ (Below.refl _ _)⟩; obtain ⟨⟨hH, q1⟩, q2⟩ := hS; obtain ⟨x0, x1, _⟩ := hH.1; go_simp; first | done | with_reducible rfl) | fail
            simp only [Act.put, List.setIfInBounds_toArray, List.set_cons_zero, List.set_cons_succ]
            refine doneW (by kernel_rfl) fun wH3 HG => ?_
            obtain ⟨⟨hH, q1⟩, q2⟩ := HG
            have H3 := Lib.hid hH; clear hH
            have MH3_q1 := Lib.hid q1; clear q1
            have MH3_q2 := Lib.hid q2; clear q2
            try clear x0 x1
            obtain ⟨x0, x1, _⟩ := H3.out.1
            go_wp2_with fail
            have HN := Lib.hid (HSTOP.out (decide_eq_false (Int.not_lt.2 HQ.out)))
            exact ⟨⟨i + 1, by omega, .inl (by omega), by go_num, by rw [HNX.out, HREST.out, ← HR1.out, HN.out]; exact MH3_q1.out, MH3_q2.out⟩, by simp [intOf]; omega⟩
    · have hfin : S i ++ xs.drop i = sortL (fun x y => decide (c x y < 0)) xs := by
        rcases hin with h | h
        · obtain rfl : i = xs.length := by omega
          rw [List.drop_length, List.append_nil, HS.out]; exact HF.out
        · obtain rfl : xs = [] := List.eq_nil_of_length_eq_zero h
          rw [HS.out]; simp
      have HFIN := Lib.hid hfin; clear hfin
      have hz1 : ¬ (i : Int) < (xs.length : Int) := by omega
      go_wp2_with fail
      go_end0
      exact ⟨rfl, by rw [← HFIN.out]; exact HOWN.out, HH.out⟩
end Go.Proofs.YtepacoacalhdcaaGreat
