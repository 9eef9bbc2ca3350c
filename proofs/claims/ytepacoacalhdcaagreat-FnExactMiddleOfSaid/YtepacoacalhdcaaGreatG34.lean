/-
  Several texts in one: a claim has at most 60 files.
-/
import Derived.Test.YtepacoacalhdcaaGreatG32
import Derived.Test.YtepacoacalhdcaaGreatG7
import Derived.Test.YtepacoacalhdcaaGreatG6
import Derived.Test.YtepacoacalhdcaaGreatG12

namespace Go.Proofs.YtepacoacalhdcaaGreat
open Go.RowKit
set_option linter.unusedVariables false
set_option linter.unusedSimpArgs false

/-- The area of the face k, with its sign. -/
noncomputable def arK (ns ls : List Nd) (k : Nat) : Int := areaR ns ls (atR (wF ns ls) k)

theorem inn_pos {ns ls : List Nd} (hh : wholeB ns ls = true) {k : Nat} (hk : k < (wF ns ls).length) (hi : innP (outW ns ls) k = true) : 0 < arK ns ls k :=
  inner_pos hh hk (by unfold innP at hi; simpa using hi)

theorem out_neg {ns ls : List Nd} {k : Nat} (hi : innP (outW ns ls) k = false) : arK ns ls k ≤ 0 := by
  unfold innP at hi
  have e : (k : Int) = outW ns ls := by simpa using hi
  rcases firstI_cases (outP ns ls (wF ns ls)) (wF ns ls).length with ⟨h1, _⟩ | ⟨m, h1, h2, h3, _⟩
  · unfold outW at e; omega
  · unfold outW at e
    obtain rfl : k = m := by omega
    unfold outP at h3
    simpa [arK] using h3

theorem inn_area {ns ls : List Nd} (hh : wholeB ns ls = true) {k : Nat} (hk : k < (wF ns ls).length) (hi : innP (outW ns ls) k = true) : areaW ns ls (k : Int) = arK ns ls k := by
  have := inn_pos hh hk hi
  unfold arK at this ⊢
  unfold areaW absR
  rw [if_pos ((idxB_iff _ _).2 (by omega)), Int.toNat_natCast]
  omega

theorem arK_bd {ns ls : List Nd} {k : Nat} (hk : k < (wF ns ls).length) : -16000 ≤ arK ns ls k ∧ arK ns ls k ≤ 16000 := areaR_bd (wF_ok ns ls) hk

/-- The faces that do not bear the wind. -/
noncomputable def wkP (ns ls : List Nd) (p t : Int) (k : Nat) : Bool := decide (0 < arK ns ls k) && decide (500 * t * t < arK ns ls k * p)

noncomputable def weakW (ns ls : List Nd) (p t : Int) : List Int := if (inB p 0 1000 && inB t 1 20) = true then fltN (wkP ns ls p t) (wF ns ls).length else []

theorem weakW_len (ns ls : List Nd) (p t : Int) : (weakW ns ls p t).length ≤ 20 := by
  unfold weakW
  split
  · have := fltN_len (wkP ns ls p t) (wF ns ls).length
    have := wF_thirteen ns ls
    omega
  · simp

theorem weak_inn {ns ls : List Nd} {p t : Int} (h : (inB p 0 1000 && inB t 1 20) = true) : (innW ns ls).filter (fun x => !(bearB ns ls x p t)) = weakW ns ls p t := by
  unfold weakW innW
  rw [if_pos h, flt_filter]
  by_cases hh : wholeB ns ls = true
  · refine fltN_congr _ fun k hk => ?_
    simp only [Bool.and_eq_true] at h
    cases hi : innP (outW ns ls) k
    · have := out_neg hi
      unfold wkP
      rw [Bool.false_and, show decide (0 < arK ns ls k) = false from decide_eq_false (by omega), Bool.false_and]
    · have := inn_pos hh hk hi
      unfold wkP bearB okL
      rw [inn_area hh hk hi, (idxB_iff _ _).2 (show 0 ≤ (k : Int) ∧ (k : Int) < ((wF ns ls).length : Int) by omega), h.1, h.2, decide_eq_true this]
      simp only [Bool.true_and]
      rw [← decide_not]
      exact decide_eq_decide.2 (by omega)
  · rw [show wF ns ls = [] from if_neg hh]
    rfl

/-- The greatest area. -/
noncomputable def mxK (ns ls : List Nd) : Nat → Int
  | 0 => 0
  | n + 1 => max (mxK ns ls n) (arK ns ls n)

theorem mxK_succ (ns ls : List Nd) (n : Nat) : mxK ns ls (n + 1) = max (mxK ns ls n) (arK ns ls n) := rfl

theorem mxK_bd (ns ls : List Nd) : ∀ n, n ≤ (wF ns ls).length → 0 ≤ mxK ns ls n ∧ mxK ns ls n ≤ 16000
  | 0, _ => by simp [mxK]
  | n + 1, h => by
    have := mxK_bd ns ls n (by omega)
    have := arK_bd (ns := ns) (ls := ls) (show n < (wF ns ls).length by omega)
    rw [mxK_succ]
    omega

noncomputable def mxA (ns ls : List Nd) : Int := mxK ns ls (wF ns ls).length

noncomputable def grW (ns ls : List Nd) (t : Int) : Int := if (wholeB ns ls && inB t 1 20) = true then (if mxA ns ls = 0 then 1000 else min 1000 (Int.tdiv (500 * t * t) (mxA ns ls))) else -1

noncomputable def mnG (ns ls : List Nd) (t : Int) (l : List Int) : Int := l.foldl (fun g x => min g (Int.tdiv (500 * t * t) (areaW ns ls x))) 1000

theorem mnG_app (ns ls : List Nd) (t : Int) (l : List Int) (x : Int) : mnG ns ls t (l ++ [x]) = min (mnG ns ls t l) (Int.tdiv (500 * t * t) (areaW ns ls x)) := by unfold mnG; rw [List.foldl_append]; rfl

theorem tdiv_anti {q a b : Int} (hq : 0 ≤ q) (ha : 0 < a) (hb : a ≤ b) : Int.tdiv q b ≤ Int.tdiv q a := by
  rw [Int.tdiv_eq_ediv_of_nonneg hq, Int.tdiv_eq_ediv_of_nonneg hq]
  have h0 : 0 ≤ q / b := Int.ediv_nonneg hq (by omega)
  refine (Int.le_ediv_iff_mul_le ha).2 ?_
  have h1 : q / b * a ≤ q / b * b := Int.mul_le_mul_of_nonneg_left hb h0
  have h2 : q / b * b ≤ q := Int.ediv_mul_le q (by omega)
  omega

theorem fold_min {q : Int} (hq : 0 ≤ q) (A : Nat → Int) (B : Int → Int) (p : Nat → Bool) (M : Nat → Int) (hM0 : M 0 = 0) (hM : ∀ n, M (n + 1) = max (M n) (A n)) :
    ∀ n, (∀ k, k < n → p k = true → 0 < A k ∧ B (k : Int) = A k) → (∀ k, k < n → p k = false → A k ≤ 0) → 0 ≤ M n ∧ (fltN p n).foldl (fun g x => min g (Int.tdiv q (B x))) 1000 = if M n = 0 then 1000 else min 1000 (Int.tdiv q (M n))
  | 0, _, _ => by
    rw [hM0]
    exact ⟨by omega, rfl⟩
  | n + 1, h1, h2 => by
    obtain ⟨i0, i1⟩ := fold_min hq A B p M hM0 hM n (fun k hk => h1 k (by omega)) (fun k hk => h2 k (by omega))
    rw [hM, fltN_succ]
    cases hp : p n
    · have := h2 n (by omega) hp
      rw [if_neg (by simp), i1, show max (M n) (A n) = M n by omega]
      exact ⟨i0, rfl⟩
    · obtain ⟨a0, a1⟩ := h1 n (by omega) hp
      refine ⟨by omega, ?_⟩
      rw [if_pos rfl, List.foldl_append, i1]
      simp only [List.foldl_cons, List.foldl_nil]
      rw [a1, if_neg (show ¬ max (M n) (A n) = 0 by omega)]
      by_cases hz : M n = 0
      · rw [if_pos hz, hz, show max 0 (A n) = A n by omega]
      · rw [if_neg hz]
        by_cases hle : M n ≤ A n
        · have := tdiv_anti hq (show 0 < M n by omega) hle
          rw [show max (M n) (A n) = A n by omega]
          omega
        · have := tdiv_anti hq a0 (show A n ≤ M n by omega)
          rw [show max (M n) (A n) = M n by omega]
          omega

theorem sq_nn {t : Int} (h : inB t 1 20 = true) : 0 ≤ 500 * t * t := by
  have ht : 1 ≤ t ∧ t ≤ 20 := by unfold inB at h; simp at h; omega
  exact Int.mul_nonneg (by omega) (by omega)

theorem grW_inn {ns ls : List Nd} {t : Int} (h : (wholeB ns ls && inB t 1 20) = true) : mnG ns ls t (innW ns ls) = grW ns ls t := by
  have h' := h
  simp only [Bool.and_eq_true] at h'
  have := (fold_min (sq_nn h'.2) (arK ns ls) (areaW ns ls) (innP (outW ns ls)) (mxK ns ls) rfl (fun _ => rfl) (wF ns ls).length (fun k hk hi => ⟨inn_pos h'.1 hk hi, inn_area h'.1 hk hi⟩) (fun k _ hi => out_neg hi)).2
  unfold mnG grW innW
  rw [this, if_pos h]
  rfl

/-- The sum of F over some faces. -/
noncomputable def sumA (ns ls : List Nd) (l : List Int) : Int := l.foldl (fun a x => a + areaW ns ls x) 0

theorem sumA_app (ns ls : List Nd) (l : List Int) (x : Int) : sumA ns ls (l ++ [x]) = sumA ns ls l + areaW ns ls x := by unfold sumA; rw [List.foldl_append]; rfl

theorem sumA_nil (ns ls : List Nd) : sumA ns ls [] = 0 := rfl

theorem foldl_sumZ (f : Int → Int) : ∀ (l : List Int) (a : Int), l.foldl (fun a x => a + f x) a = a + sumZ (l.map f)
  | [], a => by simp [sumZ]
  | x :: t, a => by
    rw [List.foldl_cons, foldl_sumZ f t]
    simp only [List.map_cons, sumZ]
    omega

theorem sumA_sumZ (ns ls : List Nd) (l : List Int) : sumA ns ls l = sumZ (l.map (areaW ns ls)) := by
  unfold sumA
  rw [foldl_sumZ]
  omega

theorem sumZ_flt (p : Nat → Bool) (B : Int → Int) : ∀ n, sumZ ((fltN p n).map B) = sumT (fun k => if p k = true then B k else 0) n
  | 0 => rfl
  | n + 1 => by
    rw [fltN_succ, sumT, ← sumZ_flt p B n]
    cases p n
    · simp
    · rw [if_pos rfl, if_pos rfl, List.map_append, sumZ_app]
      simp [sumZ]

noncomputable def orgF (ns ls : List Nd) (hs : List Int) (n : Nat) : Int := sumT (fun k => if atZ hs k = 0 then max 0 (arK ns ls k) else 0) n

noncomputable def orgW (ns ls : List Nd) (hs : List Int) : Int := if listB ns ls 0 3000 hs = true then orgF ns ls hs (wF ns ls).length else -1

noncomputable def orgL (ns ls : List Nd) (hs : List Int) : List Int := (innW ns ls).filter (fun x => atZ hs x.toNat == 0)

theorem org_inn {ns ls : List Nd} {hs : List Int} (hh : wholeB ns ls = true) : sumA ns ls (orgL ns ls hs) = orgF ns ls hs (wF ns ls).length := by
  unfold orgL innW orgF
  rw [flt_filter, sumA_sumZ, sumZ_flt]
  refine sumT_congr _ fun k hk => ?_
  cases hi : innP (outW ns ls) k
  · have := out_neg hi
    rw [Bool.false_and, if_neg (by simp)]
    split <;> omega
  · have := inn_pos hh hk hi
    rw [inn_area hh hk hi, Bool.true_and, Int.toNat_natCast]
    by_cases hz : atZ hs k = 0
    · rw [if_pos hz, if_pos (by simp [hz])]
      omega
    · rw [if_neg hz, if_neg (by simp [hz])]

theorem sumT_bd {F : Nat → Int} {c : Int} : ∀ n, (∀ k, k < n → 0 ≤ F k ∧ F k ≤ c) → 0 ≤ sumT F n ∧ sumT F n ≤ c * n
  | 0, _ => by simp [sumT]
  | n + 1, h => by
    have := sumT_bd n fun k hk => h k (by omega)
    have := h n (by omega)
    rw [sumT, Int.natCast_succ, Int.mul_add]
    omega

theorem orgF_bd {ns ls : List Nd} {hs : List Int} {n : Nat} (h : n ≤ (wF ns ls).length) : 0 ≤ orgF ns ls hs n ∧ orgF ns ls hs n ≤ 208000 := by
  have h13 := wF_thirteen ns ls
  have := sumT_bd (F := fun k => if atZ hs k = 0 then max 0 (arK ns ls k) else 0) (c := 16000) n fun k hk => by
    have := arK_bd (ns := ns) (ls := ls) (show k < (wF ns ls).length by omega)
    split <;> omega
  unfold orgF
  omega

/-- The faces but the wall around are the whole window. -/
theorem total_inn {ns ls : List Nd} (hh : wholeB ns ls = true) : sumT (fun k => max 0 (arK ns ls k)) (wF ns ls).length = totalW ns ls := by
  obtain ⟨o, ho1, ho2⟩ := outW_is hh
  have hz := sumF_all hh
  have hs : ∀ n, sumF ns ls n = sumT (arK ns ls) n := fun n => by
    induction n with
    | zero => rfl
    | succ n ih => rw [sumF, sumT, ih]; rfl
  rw [hs] at hz
  have h1 : sumT (fun k => max 0 (arK ns ls k) + -(arK ns ls k)) (wF ns ls).length = -(arK ns ls o) := by
    rw [sumT_one (x := o) _ ho2 (fun i hi hne => by
      have := inn_pos hh hi (by unfold innP; rw [ho1]; simp; omega)
      omega)]
    have := out_neg (ns := ns) (ls := ls) (k := o) (by unfold innP; rw [ho1]; simp)
    omega
  rw [sumT_add, sumT_neg, hz] at h1
  have h2 : totalW ns ls = -(arK ns ls o) := by
    have := out_neg (ns := ns) (ls := ls) (k := o) (by unfold innP; rw [ho1]; simp)
    unfold totalW areaW
    rw [ho1, if_pos ((idxB_iff _ _).2 (by omega)), Int.toNat_natCast]
    unfold absR arK at *
    omega
  omega

theorem innW_sum {ns ls : List Nd} (hh : wholeB ns ls = true) : sumA ns ls (innW ns ls) = totalW ns ls := by
  rw [← total_inn hh]
  unfold innW
  rw [sumA_sumZ, sumZ_flt]
  refine sumT_congr _ fun k hk => ?_
  cases hi : innP (outW ns ls) k
  · have := out_neg hi
    rw [if_neg (by simp)]
    omega
  · have := inn_pos hh hk hi
    rw [inn_area hh hk hi, if_pos rfl]
    omega
end Go.Proofs.YtepacoacalhdcaaGreat

namespace Go.Proofs.YtepacoacalhdcaaGreat
open Go.RowKit
set_option linter.unusedVariables false
set_option linter.unusedSimpArgs false

theorem implBorneL (ns ls : List Nd) (f p t : Int) (w : World) : Calls Tryz.prog 76 #[loadV ns ls f p, .int .i64 t] w (BoolIs (bearB ns ls f p t) w) := by
  by_cases ho : okL ns ls f p = true
  · obtain ⟨h1, h2⟩ := okL_parts ho
    obtain ⟨a1, a2⟩ := area_nn h1
    have hp : 0 ≤ p ∧ p ≤ 1000 := by unfold inB at h2; simp at h2; omega
    obtain ⟨m1, m2⟩ := mul_bd a1 a2 hp.1 hp.2
    have := implBorneW (areaW ns ls f) p t w (IntWalk.i64_in _ (by omega))
    unfold loadV bearB
    rw [if_pos ho, ho, Bool.true_and]
    exact this
  · have := implBorneN t w
    unfold loadV bearB
    rw [if_neg ho, show okL ns ls f p = false by simpa using ho, Bool.false_and]
    exact this

set_option maxRecDepth 100000 in
set_option maxHeartbeats 4000000 in
theorem implWeak (ns ls : List Nd) (vn vl : Value) (p t : Int) (w : World) (hn : Prs w vn ns) (hl : Prs w vl ls) :
    Calls Tryz.prog 26 #[.agg #[vn, vl], .int .i64 p, .int .i64 t] w (IntsNew (weakW ns ls p t) w) := by
  have HPR := Lib.hid (implPress p)
  have HTH := Lib.hid (implThick t)
  unfold BoolIs at HPR HTH
  by_cases hp : inB p 0 1000 = true
  · by_cases ht : inB t 1 20 = true
    · rw [hp] at HPR
      rw [ht] at HTH
      have HR := Lib.hid (weak_inn (ns := ns) (ls := ls) (p := p) (t := t) (by rw [hp, ht]; rfl))
      clear hp ht
      have HA := Lib.hid (fun (f : Int) v1 v2 v3 v4 B w h1 h2 h3 h4 => implLoadG ns ls v1 v2 v3 v4 B f p w h1 h2 h3 h4)
      have HB := Lib.hid (fun (f : Int) w => implBorneL ns ls f p t w)
      unfold BoolIs at HB
      have HIN := Lib.hid (fun v1 v2 v3 v4 B w h1 h2 h3 h4 => (show Calls Tryz.prog 75 #[.agg #[v1, v2, v3, v4]] w (IntsNew (innW ns ls) w) from by
        have := implInner (gN ns ls) (gL ns ls) v1 v2 v3 v4 (wF ns ls) (gA ns ls) B w h1 h2 h3 h4 (g_ok ns ls)
        rw [g_outer] at this
        exact this))
      unfold IntsNew at HIN
      have HAT := Lib.hid (fun i (hi : i < (innW ns ls).length) => (show ∃ k : Nat, atZ (innW ns ls) i = (k : Int) from by
        obtain ⟨k, h1, h2⟩ := innW_at hi
        exact ⟨k, h1⟩))
      have hilen := innW_len ns ls
      obtain ⟨i0, hi, hz0, hz1, hz2⟩ := info_parts infoInt
      have HI := Lib.hid (And.intro hi (And.intro hz0 (And.intro hz1 hz2))); clear hi hz0 hz1 hz2
      obtain ⟨LV, hLV⟩ : ∃ LV : Int → Value, (fun f => loadV ns ls f p) = LV := ⟨_, rfl⟩
      have HLV := Lib.hid (fun f => (show loadV ns ls f p = LV f from by rw [← hLV])); clear hLV
      simp only [HLV.out] at HA HB
      obtain ⟨PB, hPB⟩ : ∃ PB : Int → Bool, (fun f => bearB ns ls f p t) = PB := ⟨_, rfl⟩
      have HPB := Lib.hid (fun f => (show bearB ns ls f p t = PB f from by rw [← hPB])); clear hPB
      simp only [HPB.out] at HB HR
      clear HLV HPB
      have HN := Lib.hid hn
      have HL := Lib.hid hl
      have HGL := Lib.hid (fun w h1 h2 => implGlass ns ls vn vl w h1 h2)
      unfold GlassNew at HGL
      have H0 := Lib.hid (held_pair w vn vl 32)
      obtain ⟨A, c, rfl⟩ := prs_form2 hn
      obtain ⟨A2, c2, rfl⟩ := prs_form2 hl
      clear hn hl
      generalize weakW ns ls p t = res at *
      generalize gN ns ls = ns' at *
      generalize gL ns ls = ls' at *
      generalize gA ns ls = ds at *
      generalize wF ns ls = rs at *
      generalize wholeB ns ls = ok at *
      generalize innW ns ls = X at *
      have HTK := Lib.hid (fun m (hm : m < X.length) => (show (X.take (m + 1)).filter (fun x => !(PB x)) = (X.take m).filter (fun x => !(PB x)) ++ (if PB (atZ X m) = true then [] else [atZ X m]) from by
        rw [List.take_succ_eq_append_getElem hm, List.filter_append, atZ_get hm]
        congr 1
        cases h : PB (atZ X m) <;> simp [List.filter_cons, h]))
      have HTL := Lib.hid (fun m => (show ((X.take m).filter (fun x => !(PB x))).length ≤ 40 from Nat.le_trans (List.length_filter_le _ _) (Nat.le_trans (List.length_take_le' _ _) hilen)))
      have HT0 := Lib.hid (show (X.take 0).filter (fun x => !(PB x)) = [] from rfl)
      have HTE := Lib.hid (show (X.take X.length).filter (fun x => !(PB x)) = res from by rw [List.take_length]; exact HR.out)
      clear HR
      obtain ⟨F, hF⟩ : ∃ F : Nat → List Int, (fun m => (X.take m).filter (fun x => !(PB x))) = F := ⟨_, rfl⟩
      have HF := Lib.hid (fun m => (show (X.take m).filter (fun x => !(PB x)) = F m from by rw [← hF])); clear hF
      simp only [HF.out] at HTK HTL HT0 HTE
      clear HF
      obtain ⟨x0, x1, _⟩ := H0.out.1
      go_enter Tryz.func26, Tryz.ntmps26
      go_wp2_with fail
      refine (HPR.out _).mono ?_
      rintro e wa ⟨rfl, hb⟩
      have Ha := Lib.hid (H0.out.step hb); clear hb H0 x0 x1
      go_wp2_with fail
      refine (HTH.out _).mono ?_
      rintro e wb ⟨rfl, hb⟩
      have H0 := Lib.hid (Ha.out.step hb); clear hb Ha
      obtain ⟨x0, x1, _⟩ := H0.out.1
      go_wp2_with fail
      clear x0 x1
      refine (HGL.out _ (HN.out.step H0.out.below) (HL.out.step H0.out.below)).mono ?_
      rintro e w1 ⟨v1, v2, v3, v4, rfl, g1, g2, g3, g4, hb⟩
      have H1 := Lib.hid (H0.out.step hb)
      have G0 := Lib.hid (heldG w1 v1 v2 v3 v4 98)
      have B1 := Lib.hid (H1.out.below.trans (G0.out.below.mono H1.out.below.size))
      have G1 := Lib.hid (g1.step G0.out.below)
      have G2 := Lib.hid (g2.step G0.out.below)
      have G3 := Lib.hid (g3.step G0.out.below)
      have G4 := Lib.hid (g4.step G0.out.below)
      obtain ⟨A5, c5, rfl⟩ := prs_form2 g1
      obtain ⟨A6, c6, rfl⟩ := prs_form2 g2
      obtain ⟨A7, c7, rfl⟩ := faces_form g3
      obtain ⟨A8, c8, rfl⟩ := ints_form g4
      have S0 := Lib.hid (Held.start G0.out.1 G0.out.2.1)
      clear hb g1 g2 g3 g4
      obtain ⟨x0, x1, _⟩ := H1.out.1
      obtain ⟨y0, y1, y2, y3, _⟩ := G0.out.1
      go_wp2_with fail
      clear x0 x1 H0 HGL
      generalize hW : w1.alloc (.cells #[.slice A5 ns'.length c5, .slice A6 ls'.length c6, .slice A7 rs.length c7, .slice A8 ds.length c8] 98) = W at *
      have HWS := Lib.hid (show W.heap.size = w1.heap.size + 1 from by rw [← hW]; simp)
      have HWL := Lib.hid (show w1.heap.size < W.heap.size from by have := HWS.out; omega)
      clear hW
      have b2 := below_alloc W (.cells #[] 3)
      have HO2 := Lib.hid (Ints.made W W.heap.size W.heap.size rfl (Nat.le_refl _))
      refine (HIN.out _ _ _ _ _ _ (G1.out.step b2) (G2.out.step b2) (G3.out.step b2) (G4.out.step b2)).mono ?_
      rintro e w3 ⟨vi, rfl, hm, hb⟩
      have S3 := Lib.hid (S0.out.step (show Below W.heap.size W w3 from b2.trans (hb.mono b2.size)))
      have HO3 := Lib.hid (HO2.out.step hb)
      have hsz3 : (W.alloc (.cells #[] 3)).heap.size = W.heap.size + 1 := by simp
      rw [hsz3] at hm
      obtain ⟨ai, ci, rfl⟩ := ints_form hm
      have HLB3 := Lib.hid hm
      clear hm hb b2 HO2 y0 y1 y2 y3 G0 hsz3 S0
      go_wp2_with fail
      go_loopw [9, 29] (fun o i wr => ∃ m : Nat, m ≤ X.length ∧ i = .int .i64 m ∧ Ints wr W.heap.size o (F m) ∧ Ints wr W.heap.size (.slice ai X.length ci) X ∧ (∀ k, o.ownBlock = some k → (Value.slice ai X.length ci).ownBlock ≠ some k) ∧ Held W wr [(w1.heap.size, 0, .slice A5 ns'.length c5), (w1.heap.size, 1, .slice A6 ls'.length c6), (w1.heap.size, 2, .slice A7 rs.length c7), (w1.heap.size, 3, .slice A8 ds.length c8)]) (fun _ i _ => X.length - (intOf i).toNat)
      case atStart =>
        refine ⟨0, Nat.zero_le _, rfl, by rw [← HWS.out, HT0.out]; exact HO3.out, HLB3.out.mono (Nat.le_succ _), fun k hk h2 => ?_, S3.out⟩
        have h3 : w1.heap.size + 1 = k := by simpa [Value.ownBlock] using hk
        have := HWS.out
        have := (HLB3.out.own k h2).1
        omega
      case round =>
        clear HO3 HLB3 S3
        obtain ⟨m, hm, rfl, hown, hlab, hne, hh⟩ := hrel
        have HOWN := Lib.hid hown; clear hown
        have HLB := Lib.hid hlab; clear hlab
        have HNE := Lib.hid hne; clear hne
        have H1 := Lib.hid hh; clear hh
        by_cases hlt : m < X.length
        · obtain ⟨gl, cl, el⟩ := HLB.out.some_ (by omega)
          simp only [Value.slice.injEq] at el
          obtain ⟨rfl, -, -⟩ := el
          obtain ⟨c0, -, hgl0, -, -⟩ := HLB.out.at_ (j := m) hlt
          obtain ⟨k, hk⟩ := HAT.out m hlt
          have HTM := Lib.hid (HTK.out m hlt)
          rw [hk] at c0 HTM
          clear hk
          have HBk := Lib.hid (HB.out (k : Int))
          have hfl := HTL.out m
          generalize PB (k : Int) = b at *
          have p3 : (0 : Int) ≤ m := by omega
          have p4 : (m : Int) < (X.length : Int) := by omega
          obtain ⟨x0, x1, x2, x3, _⟩ := H1.out.1
          go_wp2_with fail
          refine (HA.out (k : Int) _ _ _ _ _ _ (G1.out.step H1.out.below) (G2.out.step H1.out.below) (G3.out.step H1.out.below) (G4.out.step H1.out.below)).mono ?_
          rintro e w2 ⟨rfl, hb⟩
          have H2 := Lib.hid (H1.out.step hb)
          have HO2 := Lib.hid (HOWN.out.step hb)
          have HL2 := Lib.hid (HLB.out.step hb)
          clear hb x0 x1 x2 x3 c0
          go_wp2_with fail
          refine (HBk.out _).mono ?_
          rintro e w3 ⟨rfl, hb⟩
          have H3 := Lib.hid (H2.out.step hb)
          have HO3 := Lib.hid (HO2.out.step hb)
          have HL3 := Lib.hid (HL2.out.step hb)
          clear hb H2 HO2 HL2 HOWN HLB H1
          cases b
          · have HX := Lib.hid (show F (m + 1) = F m ++ [(k : Int)] from by rw [HTM.out]; rfl)
            obtain ⟨hi, hz0, hz1', hz2'⟩ := HI.out
            have hsz := H3.out.below.size
            go_wp2_with (at_builtin; refine wpList_append_int rfl _ _ 27 rfl Tryz.underlying27 hi hz0 hz1' hz2' (World.ownsRow.alloc HO3.out _) rfl rfl (cell_new0 _ _ _) (by omega) (by simp; omega) ?_)
            intro v' w5 hown hgrow hfresh
            have H5 := Lib.hid (H3.out.stepB (B := W.heap.size) ⟨HWL.out, HWL.out, HWL.out, HWL.out, trivial⟩ (grown_below HO3.out hsz hgrow) (Nat.le_refl _))
            have HL5 := Lib.hid ((Ints.step HL3.out ((Below.refl _ _).alloc (Nat.le_refl _) _)).grown hgrow (fun k hk e => HNE.out k e hk))
            have HN5 := Lib.hid (show ∀ k, v'.ownBlock = some k → (Value.slice (some ⟨gl, 0, none⟩) X.length ci).ownBlock ≠ some k from fun k hk => by
              rcases hfresh with e | e
              · exact HNE.out k (by rw [← e]; exact hk)
              · rw [e] at hk
                have hk2 : w3.heap.size + 1 = k := by simpa using hk
                intro h2
                have := (HL3.out.own k h2).2
                omega)
            have HO5 := Lib.hid (Ints.more (x := (k : Int)) (by simpa using hown))
            clear hown hgrow hfresh
            go_wp2_with fail
            exact ⟨⟨m + 1, by omega, by go_num, by rw [HX.out]; exact HO5.out, HL5.out, HN5.out, H5.out⟩, by simp [intOf]; omega⟩
          · have HX := Lib.hid (show F (m + 1) = F m from by rw [HTM.out]; simp)
            go_wp2_with fail
            exact ⟨⟨m + 1, by omega, by go_num, by rw [HX.out]; exact HO3.out, HL3.out, HNE.out, H3.out⟩, by simp [intOf]; omega⟩
        · obtain rfl : m = X.length := by omega
          go_wp2_with fail
          go_ret
          exact ⟨_, rfl, by rw [← HTE.out]; exact HOWN.out.mono B1.out.size, B1.out.trans (H1.out.below.mono B1.out.size)⟩
    · have hz : weakW ns ls p t = [] := if_neg (by rw [show inB t 1 20 = false by simpa using ht]; simp)
      rw [hz]
      rw [hp] at HPR
      rw [show inB t 1 20 = false by simpa using ht] at HTH
      have H0 := Lib.hid (held_pair w vn vl 32)
      go_enter Tryz.func26, Tryz.ntmps26
      go_wp2_with fail
      refine (HPR.out _).mono ?_
      rintro e wa ⟨rfl, hb⟩
      have Ha := Lib.hid (H0.out.step hb); clear hb H0
      go_wp2_with fail
      refine (HTH.out _).mono ?_
      rintro e wb ⟨rfl, hb⟩
      have Hb := Lib.hid (Ha.out.step hb); clear hb Ha
      go_wp2_with fail
      go_ret
      exact ⟨_, rfl, Ints.nil _ _, Hb.out.below⟩
  · have hz : weakW ns ls p t = [] := if_neg (by rw [show inB p 0 1000 = false by simpa using hp]; simp)
    rw [hz]
    rw [show inB p 0 1000 = false by simpa using hp] at HPR
    have H0 := Lib.hid (held_pair w vn vl 32)
    obtain ⟨A, c, rfl⟩ := prs_form2 hn
    obtain ⟨A2, c2, rfl⟩ := prs_form2 hl
    go_enter Tryz.func26, Tryz.ntmps26
    go_wp2_with fail
    refine (HPR.out _).mono ?_
    rintro e wa ⟨rfl, hb⟩
    have Ha := Lib.hid (H0.out.step hb); clear hb H0
    go_wp2_with fail
    go_ret
    exact ⟨_, rfl, Ints.nil _ _, Ha.out.below⟩

set_option maxRecDepth 100000 in
set_option maxHeartbeats 2000000 in
theorem specWeak (ns ls : List Nd) (vn vl : Value) (p t : Int) (w : World) (hn : Prs w vn ns) (hl : Prs w vl ls) :
    Calls Tryz.prog 25 #[.agg #[vn, vl], .int .i64 p, .int .i64 t] w (IntsNew (weakW ns ls p t) w) := by
  have HIP := Lib.hid (fun w => specIn p 0 1000 w)
  have HIT := Lib.hid (fun w => specIn t 1 20 w)
  have HF := Lib.hid (fun w h1 h2 => specFacesL ns ls vn vl w h1 h2)
  unfold FacesNew at HF
  by_cases hp : inB p 0 1000 = true
  · by_cases ht : inB t 1 20 = true
    · have HR := Lib.hid (show weakW ns ls p t = fltN (wkP ns ls p t) (wF ns ls).length from if_pos (by rw [hp, ht]; rfl))
      obtain ⟨t1, t2⟩ := thick_bd ht
      have hp' := (inB_iff _ _ _).1 hp
      rw [hp] at HIP
      rw [ht] at HIT
      have HOK := Lib.hid (wF_ok ns ls).2
      have HAL := Lib.hid (fun l vx w (hx : Seq w vx l) hn hl hw hd h4 => specAlong ns ls vn vl vx l w hn hl hx hw hd h4)
      unfold IntIs at HAL
      have HBD := Lib.hid (fun k (h : k < (wF ns ls).length) => (show -16000 ≤ areaL ns ls (atR (wF ns ls) k) (atR (wF ns ls) k).length ∧ areaL ns ls (atR (wF ns ls) k) (atR (wF ns ls) k).length ≤ 16000 from arK_bd (ns := ns) (ls := ls) h))
      have HPK := Lib.hid (fun k => (show wkP ns ls p t k = (decide (0 < areaL ns ls (atR (wF ns ls) k) (atR (wF ns ls) k).length) && decide (500 * t * t < areaL ns ls (atR (wF ns ls) k) (atR (wF ns ls) k).length * p)) from rfl))
      have HU := Lib.hid (fun m => fltN_succ (wkP ns ls p t) m)
      have HLN := Lib.hid (fltN_len (wkP ns ls p t))
      have HZ := Lib.hid (show fltN (wkP ns ls p t) 0 = [] from rfl)
      have HMP := Lib.hid (fun (a : Int) (h1 : 0 ≤ a) (h2 : a ≤ 16000) => (show IntKind.i64.wrap (a * p) = a * p from IntWalk.i64_in _ (by have := mul_bd h1 h2 hp'.1 hp'.2; omega)))
      have HT64 := Lib.hid (show wrap64 (500 * t) = 500 * t ∧ wrap64 (500 * t * t) = 500 * t * t from by
        have h1 := (inB_iff _ _ _).1 ht
        have h2 := sq_nn ht
        have h3 : 500 * t * t ≤ 10000 * 20 := Int.mul_le_mul (by omega) (by omega) (by omega) (by omega)
        exact ⟨IntWalk.wrap64_in _ (by omega), IntWalk.wrap64_in _ (by omega)⟩)
      have HMQ := Lib.hid (fun (a : Int) (h1 : 0 ≤ a) (h2 : a ≤ 16000) => (show wrap64 (a * p) = a * p from IntWalk.wrap64_in _ (by have := mul_bd h1 h2 hp'.1 hp'.2; omega)))
      clear hp ht hp'
      have HN := Lib.hid hn
      have HL := Lib.hid hl
      have H0 := Lib.hid (held_pair w vn vl 32)
      obtain ⟨A, c, rfl⟩ := prs_form2 hn
      obtain ⟨A2, c2, rfl⟩ := prs_form2 hl
      clear hn hl
      have h40 := wF_len (ns := ns) (ls := ls)
      have H1 := Lib.hid (H0.out.alloc (.cells #[] 3))
      have HO1 := Lib.hid (Ints.made (w.alloc (.cells #[.slice A ns.length c, .slice A2 ls.length c2] 32)) (w.heap.size + 1) (w.heap.size + 1) (by simp) (Nat.le_refl _))
      clear H0
      obtain ⟨i0, hi, hz0, hz1, hz2⟩ := info_parts infoInt
      have HI := Lib.hid (And.intro hi (And.intro hz0 (And.intro hz1 hz2))); clear hi hz0 hz1 hz2
      generalize weakW ns ls p t = res at *
      generalize fltN (wkP ns ls p t) = X at *
      generalize wkP ns ls p t = P at *
      generalize wF ns ls = rs at *
      have t3 : wrap64 (500 * t) = 500 * t := HT64.out.1
      have t4 : wrap64 (500 * t * t) = 500 * t * t := HT64.out.2
      go_enter Tryz.func25, Tryz.ntmps25
      go_wp2_with fail
      refine (HF.out _ (HN.out.step H1.out.below) (HL.out.step H1.out.below)).mono ?_
      rintro e w1 ⟨vf, rfl, hf, hb⟩
      have hbase : ((w.alloc (.cells #[.slice A ns.length c, .slice A2 ls.length c2] 32)).alloc (.cells #[] 3)).heap.size = w.heap.size + 1 + 1 := by simp
      rw [hbase] at hf
      obtain ⟨a, c3, rfl, hmax, hro⟩ := hf.open2
      have HRO := Lib.hid hro; clear hro
      have H2 := Lib.hid (H1.out.step hb)
      have HO2 := Lib.hid (HO1.out.step hb)
      clear hb hf H1 HO1 hbase
      go_wp2_with fail
      go_loopw [7, 9] (fun v i wr => ∃ m : Nat, m ≤ rs.length ∧ i = .int .i64 m ∧ Ints wr (w.heap.size + 1) v (X m) ∧ Keeps (w.heap.size + 1 + 1) w1 wr ∧ (∀ k, v.ownBlock = some k → k < w.heap.size + 1 + 1 ∨ w1.heap.size ≤ k) ∧ Held w wr [(w.heap.size, 0, .slice A ns.length c), (w.heap.size, 1, .slice A2 ls.length c2)]) (fun _ i _ => rs.length - (intOf i).toNat)
      case atStart => exact ⟨0, Nat.zero_le _, rfl, by rw [HZ.out]; exact HO2.out, Keeps.refl _ _, fun k hk => by simp [Value.ownBlock] at hk; omega, H2.out⟩
      case round =>
        clear H2 HO2
        obtain ⟨m, hm, rfl, hown, hkeep, hwhere, hh⟩ := hrel
        have HO := Lib.hid hown; clear hown
        have HK := Lib.hid hkeep; clear hkeep
        have HW := Lib.hid hwhere; clear hwhere
        have H1 := Lib.hid hh; clear hh
        by_cases hlt : m < rs.length
        · have q1 : (0 : Int) ≤ m := by omega
          have q2 : (m : Int) < (rs.length : Int) := by omega
          obtain ⟨g3, rfl, hg3, hrw⟩ := HRO.out m hlt
          obtain ⟨A4, c4, k0, hsq⟩ := hrw wr HK.out
          have HSQ := Lib.hid hsq
          obtain ⟨hw, hd, h4⟩ := HOK.out m hlt
          have HA := Lib.hid (fun w hn hl (hx : Seq w (.slice A4 (atR rs m).length c4) (atR rs m)) => HAL.out (atR rs m) (.slice A4 (atR rs m).length c4) w hx hn hl hw hd h4)
          have hks := HK.out.1
          have H2 := Lib.hid (Held.start (w := wr) (fs := [(w.heap.size, 0, .slice A ns.length c), (w.heap.size, 1, .slice A2 ls.length c2), (g3, m, .slice A4 (atR rs m).length c4)]) ⟨H1.out.1.1, H1.out.1.2.1, k0, trivial⟩ ⟨H1.out.2.1.1, H1.out.2.1.1, Nat.lt_of_lt_of_le hg3 hks, trivial⟩)
          obtain ⟨b1, b2⟩ := HBD.out m hlt
          have HUM := Lib.hid (HU.out m)
          have hln := HLN.out m
          have HPM := Lib.hid (HPK.out m)
          have HNr := Lib.hid (HN.out.step H1.out.below)
          have HLr := Lib.hid (HL.out.step H1.out.below)
          clear hsq hrw hw hd k0
          generalize areaL ns ls (atR rs m) (atR rs m).length = ar at *
          generalize (atR rs m).length = rl at *
          by_cases ha : 0 < ar
          · have ga1 : decide (0 < ar) = true := decide_eq_true ha
            have ga2 : decide (ar > 0) = true := decide_eq_true ha
            have hmp := HMP.out ar (by omega) b2
            have hmq := HMQ.out ar (by omega) b2
            by_cases hq : 500 * t * t < ar * p
            · have HPT := Lib.hid (show P m = true from by rw [HPM.out, decide_eq_true ha, decide_eq_true hq]; rfl)
              have gq1 : decide (500 * t * t < ar * p) = true := decide_eq_true hq
              have gq2 : decide (ar * p > 500 * t * t) = true := decide_eq_true hq
              clear HPM
              have HX := Lib.hid (show X (m + 1) = X m ++ [(m : Int)] from by rw [HUM.out, if_pos HPT.out])
              go_wp2_with fail
              refine (HIP.out _).mono ?_
              rintro e w2 ⟨rfl, rfl⟩
              go_wp2_with fail
              refine (HIT.out _).mono ?_
              rintro e w3 ⟨rfl, rfl⟩
              obtain ⟨x0, x1, x2, _⟩ := H2.out.1
              go_wp2_with fail
              refine regionD (S := fun W => Held _ W [(w.heap.size, 0, .slice A ns.length c), (w.heap.size, 1, .slice A2 ls.length c2), (g3, m, .slice A4 rl c4)]) (by kernel_rfl) H2.out.drew ?_
              iterate 7 (refine takeT (v := ?_) rfl (by kernel_rfl) (by kernel_rfl) (by kernel_rfl) ?_ ?_; rotate_left; (first | (refine Or.inr ⟨by rfl, ?_⟩; with_reducible rfl) | (refine Or.inl ⟨by rfl, fun W hS => detRes_value (w' := W) ?_ hS⟩; obtain ⟨x0, x1, x2, _⟩ := hS.1; go_simp; first | done | with_reducible rfl) | (refine Or.inl ⟨by rfl, fun W hS => ?_⟩; refine detRes_call (w' := W) (f := ?_) (args := ?_) ?_ ?_; rotate_left 2; (go_simp; (refine ⟨?_, ?_⟩ <;> with_reducible rfl)); (first | (with_reducible refine (HA.out _ (HNr.out.step hS.below) (HLr.out.step hS.below) (HSQ.out.step hS.below)).mono ?_) | fail); (first | (rintro e wn ⟨rfl, hb⟩; refine ⟨?_, hS.step hb⟩; with_reducible rfl) | (rintro e wn ⟨rfl, rfl⟩; refine ⟨?_, hS⟩; with_reducible rfl) | fail)) | fail); (simp only [Act.put, List.setIfInBounds_toArray, List.set_cons_zero, List.set_cons_succ]))
              refine doneD (by kernel_rfl) fun wH3 HS => ?_
              have H3 := Lib.hid HS; clear HS
              try clear x0 x1 x2
              obtain ⟨x0, x1, x2, _⟩ := H3.out.1
              obtain ⟨x0, x1, x2, _⟩ := H3.out.1
              have HO3 := Lib.hid (HO.out.step H3.out.below)
              have HK3 := Lib.hid (HK.out.below H3.out.below)
              have H4 := Lib.hid (H1.out.step H3.out.below)
              obtain ⟨hi, hz0, hz1, hz2⟩ := HI.out
              have hsz1 := H4.out.2.1.1
              have hks3 := HK3.out.1
              go_wp2_with (at_builtin; refine wpList_append_int rfl _ _ 27 rfl Tryz.underlying27 hi hz0 hz1 hz2 (World.ownsRow.alloc HO3.out _) rfl rfl (cell_new0 _ _ _) (by omega) (by simp; omega) ?_)
              intro v' w5 hown hgrow hfresh
              have H5 := Lib.hid (H4.out.stepB (B := w.heap.size + 1) ⟨Nat.lt_succ_self _, Nat.lt_succ_self _, trivial⟩ (grown_below HO3.out hsz1 hgrow) (Nat.le_succ _))
              have HK5 := Lib.hid ((HK3.out.below (below_alloc _ (.cells #[.int .i64 m] 3))).grown hgrow (fun k e => by have := HW.out k e; omega))
              have HW5 := Lib.hid (show ∀ k, v'.ownBlock = some k → k < w.heap.size + 1 + 1 ∨ w1.heap.size ≤ k from fun k hk => by
                rcases hfresh with e | e
                · exact HW.out k (by rw [← e]; exact hk)
                · rw [e] at hk
                  have hk2 : wH3.heap.size + 1 = k := by simpa using hk
                  omega)
              have HO5 := Lib.hid (Ints.more (xs := X m) (x := (m : Int)) (by simpa using hown))
              clear hown hgrow hfresh
              go_wp2_with fail
              exact ⟨⟨m + 1, by omega, by go_num, by rw [HX.out]; exact HO5.out, HK5.out, HW5.out, H5.out⟩, by simp [intOf]; omega⟩
            · have HPF := Lib.hid (show P m = false from by rw [HPM.out, decide_eq_false hq]; simp)
              have gq1 : decide (500 * t * t < ar * p) = false := decide_eq_false hq
              have gq2 : decide (ar * p > 500 * t * t) = false := decide_eq_false hq
              clear HPM
              have HX := Lib.hid (show X (m + 1) = X m from by rw [HUM.out, if_neg (by rw [HPF.out]; simp)])
              go_wp2_with fail
              refine (HIP.out _).mono ?_
              rintro e w2 ⟨rfl, rfl⟩
              go_wp2_with fail
              refine (HIT.out _).mono ?_
              rintro e w3 ⟨rfl, rfl⟩
              obtain ⟨x0, x1, x2, _⟩ := H2.out.1
              go_wp2_with fail
              refine regionD (S := fun W => Held _ W [(w.heap.size, 0, .slice A ns.length c), (w.heap.size, 1, .slice A2 ls.length c2), (g3, m, .slice A4 rl c4)]) (by kernel_rfl) H2.out.drew ?_
              iterate 7 (refine takeT (v := ?_) rfl (by kernel_rfl) (by kernel_rfl) (by kernel_rfl) ?_ ?_; rotate_left; (first | (refine Or.inr ⟨by rfl, ?_⟩; with_reducible rfl) | (refine Or.inl ⟨by rfl, fun W hS => detRes_value (w' := W) ?_ hS⟩; obtain ⟨x0, x1, x2, _⟩ := hS.1; go_simp; first | done | with_reducible rfl) | (refine Or.inl ⟨by rfl, fun W hS => ?_⟩; refine detRes_call (w' := W) (f := ?_) (args := ?_) ?_ ?_; rotate_left 2; (go_simp; (refine ⟨?_, ?_⟩ <;> with_reducible rfl)); (first | (with_reducible refine (HA.out _ (HNr.out.step hS.below) (HLr.out.step hS.below) (HSQ.out.step hS.below)).mono ?_) | fail); (first | (rintro e wn ⟨rfl, hb⟩; refine ⟨?_, hS.step hb⟩; with_reducible rfl) | (rintro e wn ⟨rfl, rfl⟩; refine ⟨?_, hS⟩; with_reducible rfl) | fail)) | fail); (simp only [Act.put, List.setIfInBounds_toArray, List.set_cons_zero, List.set_cons_succ]))
              refine doneD (by kernel_rfl) fun wH3 HS => ?_
              have H3 := Lib.hid HS; clear HS
              try clear x0 x1 x2
              obtain ⟨x0, x1, x2, _⟩ := H3.out.1
              go_wp2_with fail
              have HO3 := Lib.hid (HO.out.step H3.out.below)
              have HK3 := Lib.hid (HK.out.below H3.out.below)
              have H4 := Lib.hid (H1.out.step H3.out.below)
              exact ⟨⟨m + 1, by omega, by go_num, by rw [HX.out]; exact HO3.out, HK3.out, HW.out, H4.out⟩, by simp [intOf]; omega⟩
          · have HPF := Lib.hid (show P m = false from by rw [HPM.out, decide_eq_false ha]; rfl)
            have ga1 : decide (0 < ar) = false := decide_eq_false ha
            have ga2 : decide (ar > 0) = false := decide_eq_false ha
            clear HPM
            have HX := Lib.hid (show X (m + 1) = X m from by rw [HUM.out, if_neg (by rw [HPF.out]; simp)])
            go_wp2_with fail
            refine (HIP.out _).mono ?_
            rintro e w2 ⟨rfl, rfl⟩
            go_wp2_with fail
            refine (HIT.out _).mono ?_
            rintro e w3 ⟨rfl, rfl⟩
            obtain ⟨x0, x1, x2, _⟩ := H2.out.1
            go_wp2_with fail
            refine regionD (S := fun W => Held _ W [(w.heap.size, 0, .slice A ns.length c), (w.heap.size, 1, .slice A2 ls.length c2), (g3, m, .slice A4 rl c4)]) (by kernel_rfl) H2.out.drew ?_
            iterate 7 (refine takeT (v := ?_) rfl (by kernel_rfl) (by kernel_rfl) (by kernel_rfl) ?_ ?_; rotate_left; (first | (refine Or.inr ⟨by rfl, ?_⟩; with_reducible rfl) | (refine Or.inl ⟨by rfl, fun W hS => detRes_value (w' := W) ?_ hS⟩; obtain ⟨x0, x1, x2, _⟩ := hS.1; go_simp; first | done | with_reducible rfl) | (refine Or.inl ⟨by rfl, fun W hS => ?_⟩; refine detRes_call (w' := W) (f := ?_) (args := ?_) ?_ ?_; rotate_left 2; (go_simp; (refine ⟨?_, ?_⟩ <;> with_reducible rfl)); (first | (with_reducible refine (HA.out _ (HNr.out.step hS.below) (HLr.out.step hS.below) (HSQ.out.step hS.below)).mono ?_) | fail); (first | (rintro e wn ⟨rfl, hb⟩; refine ⟨?_, hS.step hb⟩; with_reducible rfl) | (rintro e wn ⟨rfl, rfl⟩; refine ⟨?_, hS⟩; with_reducible rfl) | fail)) | fail); (simp only [Act.put, List.setIfInBounds_toArray, List.set_cons_zero, List.set_cons_succ]))
            refine doneD (by kernel_rfl) fun wH3 HS => ?_
            have H3 := Lib.hid HS; clear HS
            try clear x0 x1 x2
            obtain ⟨x0, x1, x2, _⟩ := H3.out.1
            go_wp2_with fail
            have HO3 := Lib.hid (HO.out.step H3.out.below)
            have HK3 := Lib.hid (HK.out.below H3.out.below)
            have H4 := Lib.hid (H1.out.step H3.out.below)
            exact ⟨⟨m + 1, by omega, by go_num, by rw [HX.out]; exact HO3.out, HK3.out, HW.out, H4.out⟩, by simp [intOf]; omega⟩
        · obtain rfl : m = rs.length := by omega
          go_wp2_with fail
          go_ret
          exact ⟨_, rfl, by rw [HR.out]; exact HO.out.mono (Nat.le_succ _), H1.out.below⟩
    · have hz : weakW ns ls p t = [] := if_neg (by rw [show inB t 1 20 = false by simpa using ht]; simp)
      rw [hz]
      rw [hp] at HIP
      rw [show inB t 1 20 = false by simpa using ht] at HIT
      clear hz hp ht
      have HN := Lib.hid hn
      have HL := Lib.hid hl
      have H0 := Lib.hid (held_pair w vn vl 32)
      obtain ⟨A, c, rfl⟩ := prs_form2 hn
      obtain ⟨A2, c2, rfl⟩ := prs_form2 hl
      clear hn hl
      have h40 := wF_len (ns := ns) (ls := ls)
      have H1 := Lib.hid (H0.out.alloc (.cells #[] 3))
      have HO1 := Lib.hid (Ints.made (w.alloc (.cells #[.slice A ns.length c, .slice A2 ls.length c2] 32)) (w.heap.size + 1) (w.heap.size + 1) (by simp) (Nat.le_refl _))
      clear H0
      obtain ⟨i0, hi, hz0, hz1, hz2⟩ := info_parts infoInt
      have HI := Lib.hid (And.intro hi (And.intro hz0 (And.intro hz1 hz2))); clear hi hz0 hz1 hz2
      generalize wF ns ls = rs at *
      go_enter Tryz.func25, Tryz.ntmps25
      go_wp2_with fail
      refine (HF.out _ (HN.out.step H1.out.below) (HL.out.step H1.out.below)).mono ?_
      rintro e w1 ⟨vf, rfl, hf, hb⟩
      have hbase : ((w.alloc (.cells #[.slice A ns.length c, .slice A2 ls.length c2] 32)).alloc (.cells #[] 3)).heap.size = w.heap.size + 1 + 1 := by simp
      rw [hbase] at hf
      obtain ⟨a, c3, rfl, hmax, hro⟩ := hf.open2
      have HRO := Lib.hid hro; clear hro
      have H2 := Lib.hid (H1.out.step hb)
      have HO2 := Lib.hid (HO1.out.step hb)
      clear hb hf H1 HO1 hbase
      go_wp2_with fail
      go_loopw [7, 9] (fun v i wr => v = .slice (some ⟨w.heap.size + 1, 0, none⟩) 0 0 ∧ (∃ m : Nat, i = .int .i64 m) ∧ wr = w1) (fun _ _ _ => 0)
      case atStart => exact ⟨rfl, ⟨0, rfl⟩, rfl⟩
      case round =>
        obtain ⟨rfl, ⟨m, rfl⟩, rfl⟩ := hrel
        by_cases h0 : (m : Int) < (rs.length : Int)
        · go_wp2_with fail
          refine (HIP.out _).mono ?_
          rintro e w2 ⟨rfl, rfl⟩
          go_wp2_with fail
          refine (HIT.out _).mono ?_
          rintro e w3 ⟨rfl, rfl⟩
          go_wp2_with fail
          go_ret
          exact ⟨_, rfl, HO2.out.mono (Nat.le_succ _), H2.out.below⟩
        · go_wp2_with fail
          go_ret
          exact ⟨_, rfl, HO2.out.mono (Nat.le_succ _), H2.out.below⟩
  · have hz : weakW ns ls p t = [] := if_neg (by rw [show inB p 0 1000 = false by simpa using hp]; simp)
    rw [hz]
    rw [show inB p 0 1000 = false by simpa using hp] at HIP
    clear hz hp HIT
    have HN := Lib.hid hn
    have HL := Lib.hid hl
    have H0 := Lib.hid (held_pair w vn vl 32)
    obtain ⟨A, c, rfl⟩ := prs_form2 hn
    obtain ⟨A2, c2, rfl⟩ := prs_form2 hl
    clear hn hl
    have h40 := wF_len (ns := ns) (ls := ls)
    have H1 := Lib.hid (H0.out.alloc (.cells #[] 3))
    have HO1 := Lib.hid (Ints.made (w.alloc (.cells #[.slice A ns.length c, .slice A2 ls.length c2] 32)) (w.heap.size + 1) (w.heap.size + 1) (by simp) (Nat.le_refl _))
    clear H0
    obtain ⟨i0, hi, hz0, hz1, hz2⟩ := info_parts infoInt
    have HI := Lib.hid (And.intro hi (And.intro hz0 (And.intro hz1 hz2))); clear hi hz0 hz1 hz2
    generalize wF ns ls = rs at *
    go_enter Tryz.func25, Tryz.ntmps25
    go_wp2_with fail
    refine (HF.out _ (HN.out.step H1.out.below) (HL.out.step H1.out.below)).mono ?_
    rintro e w1 ⟨vf, rfl, hf, hb⟩
    have hbase : ((w.alloc (.cells #[.slice A ns.length c, .slice A2 ls.length c2] 32)).alloc (.cells #[] 3)).heap.size = w.heap.size + 1 + 1 := by simp
    rw [hbase] at hf
    obtain ⟨a, c3, rfl, hmax, hro⟩ := hf.open2
    have HRO := Lib.hid hro; clear hro
    have H2 := Lib.hid (H1.out.step hb)
    have HO2 := Lib.hid (HO1.out.step hb)
    clear hb hf H1 HO1 hbase
    go_wp2_with fail
    go_loopw [7, 9] (fun v i wr => v = .slice (some ⟨w.heap.size + 1, 0, none⟩) 0 0 ∧ (∃ m : Nat, i = .int .i64 m) ∧ wr = w1) (fun _ _ _ => 0)
    case atStart => exact ⟨rfl, ⟨0, rfl⟩, rfl⟩
    case round =>
      obtain ⟨rfl, ⟨m, rfl⟩, rfl⟩ := hrel
      by_cases h0 : (m : Int) < (rs.length : Int)
      · go_wp2_with fail
        refine (HIP.out _).mono ?_
        rintro e w2 ⟨rfl, rfl⟩
        go_wp2_with fail
        go_ret
        exact ⟨_, rfl, HO2.out.mono (Nat.le_succ _), H2.out.below⟩
      · go_wp2_with fail
        go_ret
        exact ⟨_, rfl, HO2.out.mono (Nat.le_succ _), H2.out.below⟩
end Go.Proofs.YtepacoacalhdcaaGreat
