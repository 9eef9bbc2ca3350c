/-
  The model's labels of joined nodes.
-/
import Derived.Test.YtepacoacalhdcaaGreatG2
import Derived.Test.YtepacoacalhdcaaGreatAro
namespace Go.Proofs.YtepacoacalhdcaaGreat
open Go.RowKit
set_option linter.unusedVariables false
set_option linter.unusedSimpArgs false

def genL (n : Nat) (f : Nat → Int) : List Int := (List.range n).map f

theorem genL_len (n : Nat) (f : Nat → Int) : (genL n f).length = n := by simp [genL]

theorem genL_at {n i : Nat} (f : Nat → Int) (h : i < n) : atZ (genL n f) i = f i := by
  unfold atZ genL
  simp [List.getD, List.getElem?_map, List.getElem?_range, h]

theorem genL_succ (n : Nat) (f : Nat → Int) : genL (n + 1) f = genL n f ++ [f n] := by simp [genL, List.range_succ]

theorem genL_set (n i : Nat) (f : Nat → Int) (y : Int) : (genL n f).set i y = genL n (fun j => if j = i then y else f j) := by
  apply List.ext_getElem?
  intro j
  unfold genL
  rw [List.getElem?_set]
  by_cases h : i = j
  · subst h
    by_cases hi : i < n
    · simp [hi]
    · simp [hi]
  · rw [if_neg h]
    simp only [List.getElem?_map]
    by_cases hj : j < n
    · simp [hj, Ne.symm h]
    · simp [hj]

theorem genL_congr {n : Nat} {f g : Nat → Int} (h : ∀ i, i < n → f i = g i) : genL n f = genL n g := by
  unfold genL
  exact List.map_congr_left fun i hi => h i (List.mem_range.1 hi)

def labI (ls : List Nd) (k i : Nat) : Int := (lab ls k i : Nat)

/-- The labels while lead k levels them: those before i are done. -/
def midI (ls : List Nd) (k i j : Nat) : Int := if j < i then labI ls (k + 1) j else labI ls k j

theorem midI_next {ls : List Nd} {k n i p q : Nat} (hp : (atN ls k).x = (p : Int)) (hq : (atN ls k).y = (q : Int)) (hi : i < n) :
    genL n (midI ls k (i + 1)) = if lab ls k i = max (lab ls k p) (lab ls k q) then (genL n (midI ls k i)).set i (min (lab ls k p) (lab ls k q) : Nat) else genL n (midI ls k i) := by
  have e : lab ls (k + 1) i = if lab ls k i = max (lab ls k p) (lab ls k q) then min (lab ls k p) (lab ls k q) else lab ls k i := by
    rw [lab, hp, hq]; simp only [Int.toNat_natCast]
  by_cases h : lab ls k i = max (lab ls k p) (lab ls k q)
  · rw [if_pos h, genL_set]
    rw [if_pos h] at e
    refine genL_congr fun j hj => ?_
    unfold midI labI
    by_cases h1 : j = i
    · subst h1; rw [if_pos (Nat.lt_succ_self _), if_pos rfl, e]
    · rw [if_neg h1]
      by_cases h2 : j < i
      · rw [if_pos h2, if_pos (by omega)]
      · rw [if_neg h2, if_neg (by omega)]
  · rw [if_neg h]
    rw [if_neg h] at e
    refine genL_congr fun j hj => ?_
    unfold midI labI
    by_cases h1 : j = i
    · subst h1; rw [if_pos (Nat.lt_succ_self _), if_neg (Nat.lt_irrefl _), e]
    · by_cases h2 : j < i
      · rw [if_pos h2, if_pos (by omega)]
      · rw [if_neg h2, if_neg (by omega)]

theorem midI_zero (ls : List Nd) (k n : Nat) : genL n (midI ls k 0) = genL n (labI ls k) := genL_congr fun i _ => by unfold midI; rw [if_neg (Nat.not_lt_zero _)]

theorem midI_full (ls : List Nd) (k n : Nat) : genL n (midI ls k n) = genL n (labI ls (k + 1)) := genL_congr fun i hi => by unfold midI; rw [if_pos hi]

def labsL (ns ls : List Nd) : List Int := genL ns.length (labI ls ls.length)

set_option maxRecDepth 100000 in
set_option maxHeartbeats 4000000 in
theorem specParts (ns ls : List Nd) (vn vl : Value) (w : World) (hn : Prs w vn ns) (hl : Prs w vl ls) (hw : winB ns ls = true) :
    Calls Tryz.prog 141 #[.agg #[vn, vl]] w (IntsNew (labsL ns ls) w) := by
  have HN := Lib.hid hn
  have HL := Lib.hid hl
  obtain ⟨A, c, rfl⟩ := prs_form2 hn
  obtain ⟨A2, c2, rfl⟩ := prs_form2 hl
  clear hn hl
  obtain ⟨i0, hi, hz0, hz1, hz2⟩ := info_parts infoInt
  have HI := Lib.hid (And.intro hi (And.intro hz0 (And.intro hz1 hz2))); clear hi hz0 hz1 hz2
  have h12 := ((winB_iff ns ls).1 hw).1.1.2
  have h1 := ((winB_iff ns ls).1 hw).1.1.1
  have h20 := ((winB_iff ns ls).1 hw).1.2
  have HLD := Lib.hid (fun j (hj : j < ls.length) => leadOkB_spec (((winB_iff ns ls).1 hw).2.2 j hj).1)
  clear hw
  have H0 := Lib.hid (held_pair w (.slice A ns.length c) (.slice A2 ls.length c2) 32)
  go_enter Tryz.func141, Tryz.ntmps141
  go_wp2_with fail
  go_loopw [3, 4] (fun v i wr => ∃ m : Nat, m ≤ ns.length ∧ i = .int .i64 m ∧ Ints wr (w.heap.size + 1) v (genL m (labI ls 0)) ∧ Held w wr [(w.heap.size, 0, .slice A ns.length c), (w.heap.size, 1, .slice A2 ls.length c2)]) (fun _ i _ => ns.length - (intOf i).toNat)
  case atStart => exact ⟨0, Nat.zero_le _, rfl, Ints.made _ _ _ (by simp) (Nat.le_refl _), H0.out.alloc _⟩
  case round =>
    clear H0
    obtain ⟨m, hm, rfl, hown, hh⟩ := hrel
    have HOWN := Lib.hid hown; clear hown
    have H1 := Lib.hid hh; clear hh
    obtain ⟨x0, x1, _⟩ := H1.out.1
    by_cases hlt : m < ns.length
    · have hz1 : (m : Int) < (ns.length : Int) := by omega
      have hz2 : (0 : Int) ≤ m := by omega
      have HG := Lib.hid (genL_succ m (labI ls 0))
      have hgl := genL_len m (labI ls 0)
      have HM := Lib.hid (show labI ls 0 m = m from rfl)
      generalize genL m (labI ls 0) = l at *
      have hsz1 := H1.out.2.1.1
      obtain ⟨hi, hz0, hz1', hz2'⟩ := HI.out
      go_wp2_with (at_builtin; refine wpList_append_own _ rfl _ _ 27 rfl (w.heap.size + 1) 3 i0 (.int .i64 0) 1 8 Tryz.underlying27 hi hz0 hz1' hz2' rfl (by decide) _ _ _ rfl (World.ownsRow.alloc HOWN.out _) ⟨wr.heap.size, 0, none⟩ 1 1 [.int .i64 m] rfl rfl ?c1 ?c2 ?c3 ?c4 ?c5 ?_)
      case c1 => exact cell_one_new _ _ _
      case c2 => simp [Value.oneCell']
      case c3 => unfold maxLen; omega
      case c4 => omega
      case c5 => simp; omega
      intro v' w2 hown hgrow _
      have H4 := Lib.hid (H1.out.stepB (B := w.heap.size + 1) ⟨Nat.lt_succ_self _, Nat.lt_succ_self _, trivial⟩ (grown_below HOWN.out hsz1 hgrow) (Nat.le_succ _))
      have HO2 := Lib.hid (Ints.more (xs := l) (x := (m : Int)) (by rw [hgl]; exact hown)); clear hown hgrow
      go_wp2_with fail
      exact ⟨⟨m + 1, by omega, by go_num, by rw [HG.out, HM.out]; exact HO2.out, H4.out⟩, by simp [intOf]; omega⟩
    · obtain rfl : m = ns.length := by omega
      obtain ⟨g, cp, rfl⟩ := HOWN.out.some_ (by rw [genL_len]; omega)
      rw [genL_len] at HOWN ⊢
      clear x0 x1
      obtain ⟨x0, x1, _⟩ := H1.out.1
      go_wp2_with fail
      go_loopw [5] (fun i wr => ∃ k : Nat, k ≤ ls.length ∧ i = .int .i64 k ∧ Ints wr (w.heap.size + 1) (.slice (some ⟨g, 0, none⟩) ns.length cp) (genL ns.length (labI ls k)) ∧ Held w wr [(w.heap.size, 0, .slice A ns.length c), (w.heap.size, 1, .slice A2 ls.length c2)]) (fun i _ => ls.length - (intOf i).toNat)
      case atStart => exact ⟨0, Nat.zero_le _, rfl, HOWN.out, H1.out⟩
      case round =>
        clear HOWN H1 x0 x1
        obtain ⟨k, hk, rfl, hown, hh⟩ := hrel
        have HOWN := Lib.hid hown; clear hown
        have H1 := Lib.hid hh; clear hh
        obtain ⟨x0, x1, _⟩ := H1.out.1
        by_cases hkl : k < ls.length
        · obtain ⟨p, q, el, hpq, hp, hq, -⟩ := HLD.out k hkl
          obtain ⟨b2, o2, c3, he, hbl2, hcs2⟩ := prs_at2 (HL.out.step H1.out.below) hkl
          injection he with he1 he2 he3
          subst he1
          clear he2 he3
          obtain ⟨l0, l1⟩ := hcs2 k hkl
          clear hcs2
          rw [el] at l0 l1
          simp only at l0 l1
          have hgl := genL_len ns.length (labI ls k)
          obtain ⟨c0, -, hgl0, hgB, -⟩ := HOWN.out.at_ (j := p) (by omega)
          obtain ⟨c1, -, -, -, -⟩ := HOWN.out.at_ (j := q) (by omega)
          rw [genL_at _ hp] at c0
          rw [genL_at _ hq] at c1
          have HMN := Lib.hid (fun i (hi : i < ns.length) => midI_next (ls := ls) (k := k) (n := ns.length) (by rw [el]) (by rw [el]) hi)
          have HMV := Lib.hid (fun i (hi : i < ns.length) => (show atZ (genL ns.length (midI ls k i)) i = (lab ls k i : Nat) from by rw [genL_at _ hi]; unfold midI; rw [if_neg (Nat.lt_irrefl _)]; rfl))
          have HMZ := Lib.hid (midI_zero ls k ns.length)
          have HMF := Lib.hid (midI_full ls k ns.length)
          unfold labI at c0 c1
          generalize lab ls k p = la at *
          generalize lab ls k q = lb at *
          have e1 := min_if (la : Int) (lb : Int)
          have e2 := max_if (la : Int) (lb : Int)
          have hmx : max (la : Int) (lb : Int) = ((max la lb : Nat) : Int) := by omega
          have hmn : min (la : Int) (lb : Int) = ((min la lb : Nat) : Int) := by omega
          rw [hmn] at e1
          rw [hmx] at e2
          have p1 : (0 : Int) ≤ p := by omega
          have p2 : (p : Int) < (ns.length : Int) := by omega
          have p3 : (0 : Int) ≤ q := by omega
          have p4 : (q : Int) < (ns.length : Int) := by omega
          have p5 : (0 : Int) ≤ k := by omega
          have p6 : (k : Int) < (ls.length : Int) := by omega
          generalize hma : max la lb = ma at *
          generalize hmi : min la lb = mi at *
          have e3 : (if lb < la then (lb : Int) else (la : Int)) = (mi : Int) := by rw [← hmi]; split <;> omega
          have e4 : (if la < lb then (lb : Int) else (la : Int)) = (ma : Int) := by rw [← hma]; split <;> omega
          clear hma hmi hmx hmn hgl
          go_wp2_with fail
          go_loopw [8] (fun i wr => ∃ j : Nat, j ≤ ns.length ∧ i = .int .i64 j ∧ Ints wr (w.heap.size + 1) (.slice (some ⟨g, 0, none⟩) ns.length cp) (genL ns.length (midI ls k j)) ∧ Held w wr [(w.heap.size, 0, .slice A ns.length c), (w.heap.size, 1, .slice (some ⟨b2, o2, none⟩) ls.length c2)]) (fun i _ => ns.length - (intOf i).toNat)
          case atStart => exact ⟨0, Nat.zero_le _, rfl, by rw [HMZ.out]; exact HOWN.out, H1.out⟩
          case round =>
            clear HOWN H1 x0 x1 l0 l1 c0 c1 hgl0 hgB
            obtain ⟨j, hj, rfl, hown, hh⟩ := hrel
            have HOWN := Lib.hid hown; clear hown
            have H1 := Lib.hid hh; clear hh
            obtain ⟨x0, x1, _⟩ := H1.out.1
            by_cases hjl : j < ns.length
            · have hgl := genL_len ns.length (midI ls k j)
              obtain ⟨c0, f0, hgl0, hgB, -⟩ := HOWN.out.at_ (j := j) (by omega)
              rw [HMV.out j hjl] at c0
              have HN2 := Lib.hid (HMN.out j hjl)
              have HSET := Lib.hid (HOWN.out.set_ hgl.symm j (mi : Int))
              have HH := Lib.hid (H1.out.setB (j := j) (x := .int .i64 (mi : Int)) (B := w.heap.size + 1) ⟨Nat.lt_succ_self _, Nat.lt_succ_self _, trivial⟩ hgB (Nat.le_succ _))
              generalize lab ls k j = lj at *
              have q1 : (0 : Int) ≤ j := by omega
              have q2 : (j : Int) < (ns.length : Int) := by omega
              clear hgl
              by_cases hjm : lj = ma
              · have gq : ((lj : Int) == (ma : Int)) = true := by simp [hjm]
                have HJM := Lib.hid hjm; clear hjm
                go_wp2_with fail
                exact ⟨⟨j + 1, by omega, by go_num, by rw [HN2.out, if_pos HJM.out]; exact HSET.out, HH.out⟩, by simp [intOf]; omega⟩
              · have gq : ((lj : Int) == (ma : Int)) = false := by rw [beq_eq_false_iff_ne]; omega
                have HJM := Lib.hid hjm; clear hjm
                go_wp2_with fail
                exact ⟨⟨j + 1, by omega, by go_num, by rw [HN2.out, if_neg HJM.out]; exact HOWN.out, H1.out⟩, by simp [intOf]; omega⟩
            · obtain rfl : j = ns.length := by omega
              go_wp2_with fail
              exact ⟨⟨k + 1, by omega, by go_num, by rw [← HMF.out]; exact HOWN.out, H1.out⟩, by simp [intOf]; omega⟩
        · obtain rfl : k = ls.length := by omega
          go_wp2_with fail
          go_ret
          exact ⟨_, rfl, HOWN.out.mono (by omega), H1.out.below⟩
end Go.Proofs.YtepacoacalhdcaaGreat
