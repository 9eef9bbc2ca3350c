/-
  The brightest face, of the model.
-/
import Derived.Test.YtepacoacalhdcaaGreatBrf
import Derived.Test.YtepacoacalhdcaaGreatLgs
namespace Go.Proofs.YtepacoacalhdcaaGreat
open Go.RowKit
set_option linter.unusedVariables false
set_option linter.unusedSimpArgs false

/-- The index and the light, so far. -/
noncomputable def bsB (ns ls : List Nd) (xs : List Tr) (n : Nat) : Int := (brS (innP (outW ns ls)) (ligT ns ls xs sumS) n).1

noncomputable def bsM (ns ls : List Nd) (xs : List Tr) (n : Nat) : Int := (brS (innP (outW ns ls)) (ligT ns ls xs sumS) n).2

theorem bs_yes {ns ls : List Nd} {xs : List Tr} {n : Nat} (ho : ¬ (n : Int) = outW ns ls) (h : bsM ns ls xs n < areaW ns ls (n : Int) * sumS (atT xs n)) : bsB ns ls xs (n + 1) = (n : Int) ∧ bsM ns ls xs (n + 1) = areaW ns ls (n : Int) * sumS (atT xs n) := by
  have e := ligT_in (xs := xs) (g := sumS) ho
  have h2 : innP (outW ns ls) n = true ∧ (brS (innP (outW ns ls)) (ligT ns ls xs sumS) n).2 < ligT ns ls xs sumS n := ⟨by simp [innP, ho], by rw [e]; exact h⟩
  unfold bsB bsM brS
  rw [if_pos h2, e]
  exact ⟨rfl, rfl⟩

theorem bs_no {ns ls : List Nd} {xs : List Tr} {n : Nat} (h : (n : Int) = outW ns ls ∨ ¬ bsM ns ls xs n < areaW ns ls (n : Int) * sumS (atT xs n)) : bsB ns ls xs (n + 1) = bsB ns ls xs n ∧ bsM ns ls xs (n + 1) = bsM ns ls xs n := by
  have h2 : ¬ (innP (outW ns ls) n = true ∧ (brS (innP (outW ns ls)) (ligT ns ls xs sumS) n).2 < ligT ns ls xs sumS n) := by
    rintro ⟨h1, h2⟩
    have ho : ¬ (n : Int) = outW ns ls := by simpa [innP] using h1
    rw [ligT_in ho] at h2
    rcases h with h | h
    · exact ho h
    · exact h h2
  unfold bsB bsM
  rw [brS, if_neg h2]
  exact ⟨rfl, rfl⟩

set_option maxRecDepth 100000 in
set_option maxHeartbeats 2000000 in
theorem specBright (ns ls : List Nd) (xs : List Tr) (vn vl v : Value) (w : World) (hn : Prs w vn ns) (hl : Prs w vl ls) (hv : Trs w v xs) :
    Calls Tryz.prog 46 #[.agg #[vn, vl], v] w (IntIs (briW ns ls xs) w) := by
  have HK := Lib.hid (fun w h1 h2 h3 => specLgOk ns ls xs vn vl v w h1 h2 h3)
  unfold BoolIs at HK
  have HO := Lib.hid (fun w h1 h2 => specOuterFace ns ls vn vl w h1 h2)
  unfold IntIs at HO
  have HAR := Lib.hid (fun f w h1 h2 => specAreaOf ns ls vn vl f w h1 h2)
  unfold IntIs at HAR
  have HN := Lib.hid hn
  have HL := Lib.hid hl
  have HV := Lib.hid hv
  have hxl := hv.len
  have H0 := Lib.hid (held_pair w vn vl 32)
  obtain ⟨A, c, rfl⟩ := prs_form2 hn
  obtain ⟨A2, c2, rfl⟩ := prs_form2 hl
  obtain ⟨A3, c3, rfl⟩ := hv.form2
  clear hn hl hv
  unfold IntIs
  by_cases hlb : lgtB ns ls xs = true
  · have hlen := (lgtB_parts hlb).2.1
    have h13 := wF_thirteen ns ls
    have hx13 : xs.length ≤ 13 := by omega
    have HAT := Lib.hid (fun (k : Nat) (hk : k < xs.length) => lgt_at2 hlb hk)
    have HE1 := Lib.hid (show briW ns ls xs = bsB ns ls xs xs.length from by unfold briW bsB; rw [if_pos hlb, hlen])
    have HZ1 := Lib.hid (show bsB ns ls xs 0 = -1 from rfl)
    have HZ2 := Lib.hid (show bsM ns ls xs 0 = -1 from rfl)
    have HYS := Lib.hid (fun (n : Nat) (ho : ¬ (n : Int) = outW ns ls) h => bs_yes (xs := xs) (n := n) ho h)
    have HNS := Lib.hid (fun (n : Nat) h => bs_no (xs := xs) (n := n) (ns := ns) (ls := ls) h)
    rw [hlb] at HK
    generalize briW ns ls xs = Lx at *
    generalize bsB ns ls xs = P at *
    generalize bsM ns ls xs = M at *
    generalize outW ns ls = o at *
    clear hlb hlen h13
    go_enter Tryz.func46, Tryz.ntmps46
    obtain ⟨x0, x1, _⟩ := H0.out.1
    go_wp2_with fail
    refine (HK.out _ (HN.out.step H0.out.below) (HL.out.step H0.out.below) (HV.out.step H0.out.below)).mono ?_
    rintro e w1 ⟨rfl, hb⟩
    have H1 := Lib.hid (H0.out.step hb); clear hb x0 x1
    obtain ⟨x0, x1, _⟩ := H1.out.1
    go_wp2_with fail
    refine (HO.out _ (HN.out.step H1.out.below) (HL.out.step H1.out.below)).mono ?_
    rintro e w2 ⟨rfl, hb⟩
    have H2 := Lib.hid (H1.out.step hb); clear hb x0 x1
    go_wp2_with fail
    go_loopw [6, 7, 8] (fun r g i wr => ∃ m : Nat, m ≤ xs.length ∧ i = .int .i64 m ∧ r = .int .i64 (P m) ∧ g = .int .i64 (M m) ∧ Held w wr [(w.heap.size, 0, .slice A ns.length c), (w.heap.size, 1, .slice A2 ls.length c2)]) (fun _ _ i _ => xs.length - (intOf i).toNat)
    case atStart => exact ⟨0, Nat.zero_le _, rfl, by rw [HZ1.out], by rw [HZ2.out], H2.out⟩
    case round =>
      clear H0 H1 H2
      obtain ⟨m, hm, rfl, rfl, rfl, hh⟩ := hrel
      have H1 := Lib.hid hh; clear hh
      by_cases hlt : m < xs.length
      · have hz1 : (m : Int) < (xs.length : Int) := by omega
        have hz2 : (0 : Int) ≤ m := by omega
        obtain ⟨hA0, hX0, hY0, hZ0⟩ := HAT.out m hlt
        have HYM := HYS.out m
        have HNM := HNS.out m
        have HAM := Lib.hid (fun w h1 h2 => HAR.out (m : Int) w h1 h2)
        obtain ⟨_, _, he, _, _, hcs⟩ := (HV.out.step H1.out.below).form
        injection he with he1 he2 he3
        obtain ⟨b, o', hA, hbl, hc0, hc1, hc2⟩ := hcs m hlt
        rw [← he1] at hA
        subst hA
        clear he1 he2 he3 hcs
        generalize areaW ns ls (m : Int) = ar at *
        generalize atT xs m = t at *
        obtain ⟨x, y, z⟩ := t
        unfold sumS at HYM HNM
        simp only at hc0 hc1 hc2 hX0 hY0 hZ0 HYM HNM
        have q1 := shade_mul (a := ar) (s := x + y + z) (c := 3000) hA0 (by omega)
        obtain ⟨p1, hp1⟩ : ∃ p : Int, ar * (x + y + z) = p := ⟨_, rfl⟩
        rw [hp1] at q1 HYM HNM
        generalize M m = mm at *
        generalize P m = bb at *
        have HYM1 := Lib.hid HYM; clear HYM
        have HNM1 := Lib.hid HNM; clear HNM
        have u0 : IntKind.i64.wrap (x + y) = x + y := IntWalk.i64_in _ (by omega)
        have u2 : IntKind.i64.wrap (x + y + z) = x + y + z := IntWalk.i64_in _ (by omega)
        have u1 : IntKind.i64.wrap (ar * (x + y + z)) = p1 := by rw [hp1]; exact IntWalk.i64_in _ (by omega)
        clear hp1 q1 hA0 hX0 hY0 hZ0
        have H5 := Lib.hid (Held.start (w := wr) (fs := [(w.heap.size, 0, .slice A ns.length c), (w.heap.size, 1, .slice A2 ls.length c2), (b, o' + m * 3, .int .i64 x), (b, o' + m * 3 + 1, .int .i64 y), (b, o' + m * 3 + 2, .int .i64 z)]) ⟨H1.out.1.1, H1.out.1.2.1, hc0, hc1, hc2, trivial⟩ ⟨H1.out.2.1.1, H1.out.2.1.1, hbl, hbl, hbl, trivial⟩)
        clear hc0 hc1 hc2 hbl
        go_wp2_with fail
        refine regionD (S := fun W => Held _ W [(w.heap.size, 0, .slice A ns.length c), (w.heap.size, 1, .slice A2 ls.length c2), (b, o' + m * 3, .int .i64 x), (b, o' + m * 3 + 1, .int .i64 y), (b, o' + m * 3 + 2, .int .i64 z)]) (by kernel_rfl) H5.out.drew ?_
        iterate 22 (refine takeT (v := ?_) rfl (by kernel_rfl) (by kernel_rfl) (by kernel_rfl) ?_ ?_; rotate_left; (first | (refine Or.inr ⟨by rfl, ?_⟩; with_reducible rfl) | (refine Or.inl ⟨by rfl, fun W hS => detRes_value (w' := W) ?_ hS⟩; obtain ⟨x0, x1, x2, x3, x4, _⟩ := hS.1; go_simp; first | done | with_reducible rfl) | (refine Or.inl ⟨by rfl, fun W hS => ?_⟩; refine detRes_call (w' := W) (f := ?_) (args := ?_) ?_ ?_; rotate_left 2; (go_simp; (refine ⟨?_, ?_⟩ <;> with_reducible rfl)); (first | (with_reducible refine (HAM.out _ ((HN.out.step H1.out.below).step hS.below) ((HL.out.step H1.out.below).step hS.below)).mono ?_) | fail); (first | (rintro e wn ⟨rfl, hb⟩; refine ⟨?_, hS.step hb⟩; with_reducible rfl) | (rintro e wn ⟨rfl, rfl⟩; refine ⟨?_, hS⟩; with_reducible rfl) | fail)) | fail); (simp only [Act.put, List.setIfInBounds_toArray, List.set_cons_zero, List.set_cons_succ]))
        refine doneD (by kernel_rfl) fun wH6 HS => ?_
        have H6 := Lib.hid HS; clear HS
        try clear x0 x1 x2 x3 x4
        obtain ⟨x0, x1, x2, x3, x4, _⟩ := H6.out.1
        go_wp2_with fail
        · rename_i g1 g2
          have h := HYM1.out g1 g2
          exact ⟨⟨m + 1, by omega, by go_num, by rw [h.1], by rw [h.2], H1.out.step H6.out.below⟩, by simp [intOf]; omega⟩
        · rename_i g1 g2
          have h := HNM1.out (.inr (by omega))
          exact ⟨⟨m + 1, by omega, by go_num, by rw [h.1], by rw [h.2], H1.out.step H6.out.below⟩, by simp [intOf]; omega⟩
        · rename_i g1
          have h := HNM1.out (.inl g1)
          exact ⟨⟨m + 1, by omega, by rw [← g1]; go_num, by rw [h.1], by rw [h.2], H1.out.step H6.out.below⟩, by rw [← g1]; simp [intOf]; omega⟩
      · obtain rfl : m = xs.length := by omega
        go_wp2_with fail
        go_ret
        exact ⟨ret_int HE1.out.symm, H1.out.below⟩
  · have e : lgtB ns ls xs = false := by simpa using hlb
    rw [e] at HK
    have HE := Lib.hid (show briW ns ls xs = -1 from if_neg hlb)
    rw [HE.out]
    clear hlb e HE
    go_enter Tryz.func46, Tryz.ntmps46
    obtain ⟨x0, x1, _⟩ := H0.out.1
    go_wp2_with fail
    refine (HK.out _ (HN.out.step H0.out.below) (HL.out.step H0.out.below) (HV.out.step H0.out.below)).mono ?_
    rintro e w1 ⟨rfl, hb⟩
    have H1 := Lib.hid (H0.out.step hb); clear hb x0 x1
    go_wp2_with fail
    go_ret
    exact ⟨rfl, H1.out.below⟩
end Go.Proofs.YtepacoacalhdcaaGreat
