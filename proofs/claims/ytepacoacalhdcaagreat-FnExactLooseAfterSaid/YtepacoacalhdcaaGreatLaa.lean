/-
  LooseAfter, of the program.
-/
import Derived.Test.YtepacoacalhdcaaGreatLaf
namespace Go.Proofs.YtepacoacalhdcaaGreat
open Go.RowKit Go.Maps
set_option linter.unusedVariables false
set_option linter.unusedSimpArgs false

/-- Can the face f be taken off the set s? -/
noncomputable def laQ (M : Nat → Nat → Bool) (N out s f : Nat) : Bool := decide (subN s (2 ^ f) = 0) || jndB M N out ((subN s (2 ^ f) : Nat) : Int)

noncomputable def laP (M : Nat → Nat → Bool) (N out s f : Nat) : Bool := s.testBit f && laQ M N out s f

noncomputable def laL (ns ls : List Nd) (x : Int) : List Int := if ajB ns ls x = true then fltN (laP (gM ns ls) (wF ns ls).length (gO ns ls) x.toNat) (wF ns ls).length else []

theorem laL_no {ns ls : List Nd} {x : Int} (h : ajB ns ls x = false) : laL ns ls x = [] := if_neg (by rw [h]; simp)

theorem laL_len (ns ls : List Nd) (x : Int) : (laL ns ls x).length ≤ 20 := by
  have h13 := wF_thirteen ns ls
  unfold laL
  split
  · have := fltN_len (laP (gM ns ls) (wF ns ls).length (gO ns ls) x.toNat) (wF ns ls).length
    omega
  · simp

theorem fltN_filter (p : Nat → Bool) (q : Nat → Bool) : ∀ n, (fltN p n).filter (fun x => q x.toNat) = fltN (fun i => p i && q i) n
  | 0 => rfl
  | n + 1 => by
    rw [fltN_succ, fltN_succ]
    cases hp : p n
    · simp only [Bool.false_eq_true, if_false, Bool.false_and]
      exact fltN_filter p q n
    · simp only [if_true, Bool.true_and, List.filter_append, fltN_filter p q n]
      cases hq : q n <;> simp [List.filter_cons, hq]

theorem fltN_more {p : Nat → Bool} {n : Nat} : ∀ m, (∀ i, n ≤ i → p i = false) → fltN p (n + m) = fltN p n
  | 0, _ => rfl
  | m + 1, h => by
    show fltN p (n + m + 1) = _
    rw [fltN_succ, h (n + m) (by omega), if_neg (by simp), fltN_more m h]

theorem fltN_ends {p : Nat → Bool} {n m : Nat} (h1 : ∀ i, n ≤ i → p i = false) (h2 : ∀ i, m ≤ i → p i = false) : fltN p n = fltN p m := by
  rcases Nat.le_total n m with h | h
  · obtain ⟨k, rfl⟩ := Nat.exists_eq_add_of_le h
    exact (fltN_more k h1).symm
  · obtain ⟨k, rfl⟩ := Nat.exists_eq_add_of_le h
    exact fltN_more k h2

/-- What the program collects. -/
theorem la_list {M : Nat → Nat → Bool} {N out s : Nat} (hs : s < 2 ^ 60) (hb : ∀ i, s.testBit i = true → i < N) : (bitL s).filter (fun x => laQ M N out s x.toNat) = fltN (laP M N out s) N := by
  unfold bitL
  rw [fltN_filter]
  refine fltN_ends (fun i hi => ?_) (fun i hi => ?_)
  · rw [Nat.testBit_lt_two_pow (Nat.lt_of_lt_of_le (bitLen_lt 60 s (by omega) hs) (Nat.pow_le_pow_right (by omega) hi))]
    rfl
  · cases e : s.testBit i
    · rfl
    · have := hb i e; omega

theorem jnd_bits {M : Nat → Nat → Bool} {N out : Nat} {x : Int} (h : jndB M N out x = true) : ∃ s : Nat, x = s ∧ s ≠ 0 ∧ ∀ i, s.testBit i = true → i < N ∧ i ≠ out := by
  rcases Int.lt_trichotomy x 0 with h0 | h0 | h0
  · rw [jnd_no (by omega)] at h; cases h
  · rw [jnd_no (by omega)] at h; cases h
  · obtain ⟨s, rfl⟩ : ∃ s : Nat, x = s := ⟨x.toNat, by omega⟩
    refine ⟨s, rfl, by omega, Classical.byContradiction fun hn => ?_⟩
    rw [jnd_out hn] at h; cases h

set_option maxRecDepth 100000 in
set_option maxHeartbeats 1000000 in
theorem implLa (ns ls : List Nd) (vn vl : Value) (x : Int) (w : World) (hn : Prs w vn ns) (hl : Prs w vl ls) (hx : -9223372036854775808 ≤ x ∧ x ≤ 9223372036854775807) :
    Calls Tryz.prog 19 #[.agg #[vn, vl], .int .i64 x] w (IntsNew (laL ns ls x) w) := by
  have HSC := Lib.hid (fun w h1 h2 => implScaffold ns ls vn vl w h1 h2)
  unfold ScafRet at HSC
  rw [inW_is] at HSC
  have h13 := wF_thirteen ns ls
  have HJ := Lib.hid (fun (y : Int) vb w h1 hy => implJoined17 (gM ns ls) (besM_sym _ _) (wF ns ls).length (gO ns ls) y vb w h1 (by omega) hy)
  unfold BoolIs at HJ
  have HAJ := Lib.hid (show ajB ns ls x = jndB (gM ns ls) (wF ns ls).length (gO ns ls) x from rfl)
  have HGM := Lib.hid (show besM (gA ns ls) (gL ns ls).length = gM ns ls from rfl)
  rw [HGM.out] at HSC
  have HNO := Lib.hid (fun h => laL_no (ns := ns) (ls := ls) (x := x) h)
  have HYES := Lib.hid (fun (h : ajB ns ls x = true) => (show laL ns ls x = fltN (laP (gM ns ls) (wF ns ls).length (gO ns ls) x.toNat) (wF ns ls).length from if_pos h))
  have HN := Lib.hid hn
  have HL := Lib.hid hl
  have H0 := Lib.hid (held_pair w vn vl 32)
  obtain ⟨A, c1, rfl⟩ := prs_form2 hn
  obtain ⟨A2, c2, rfl⟩ := prs_form2 hl
  clear hn hl HGM
  generalize laL ns ls x = R at *
  generalize ajB ns ls x = r at *
  generalize gM ns ls = M at *
  generalize gO ns ls = o at *
  generalize (wF ns ls).length = N at *
  generalize inN o N = IN at *
  generalize besL M N N = bs at *
  go_enter Tryz.func19, Tryz.ntmps19
  obtain ⟨x0, x1, _⟩ := H0.out.1
  go_wp2_with fail
  refine (HSC.out _ (HN.out.step H0.out.below) (HL.out.step H0.out.below)).mono ?_
  rintro e w1 ⟨vb, rfl, hb1, hb⟩
  have H1 := Lib.hid (H0.out.step hb)
  have HV := Lib.hid hb1.seq
  have G0 := Lib.hid (heldS w1 (.int .i64 ((IN : Nat) : Int)) vb 80)
  obtain ⟨ab, cb, rfl⟩ := hb1.form
  have HB1 := Lib.hid H1.out.below
  have hs1 : w.heap.size ≤ w1.heap.size := H1.out.below.size
  clear hb hb1 x0 x1 H0 H1
  obtain ⟨x0, x1, _⟩ := G0.out.1
  go_wp2_with fail
  refine (HJ.out x _ _ (HV.out.step G0.out.below) hx).mono ?_
  rintro e w2 ⟨rfl, hb⟩
  rw [← HAJ.out]
  have G2 := Lib.hid (G0.out.step hb)
  have HB2 := Lib.hid (HB1.out.trans (G2.out.below.mono hs1))
  clear hb x0 x1 G0
  cases r
  · have HF := Lib.hid (HNO.out (by first | rfl | trivial))
    go_wp2_with fail
    go_ret
    exact ⟨_, rfl, by rw [HF.out]; exact Ints.nil _ _, HB2.out⟩
  · have HF := Lib.hid (HYES.out (by first | rfl | trivial))
    obtain ⟨s, rfl, hs0, hbits⟩ := jnd_bits HAJ.out.symm
    have hs20 : s < 2 ^ 20 := Nat.lt_of_lt_of_le (small_of fun i h => (hbits i h).1) (Nat.pow_le_pow_right (by omega) (by omega))
    have hs60 : s < 2 ^ 60 := Nat.lt_of_lt_of_le hs20 (Nat.pow_le_pow_right (by omega) (by omega))
    have hs62 : s < 4611686018427387904 := Nat.lt_of_lt_of_le hs20 (by decide)
    have HLB := Lib.hid (fun W => implListB s W hs60)
    unfold IntsNew at HLB
    have HLA := Lib.hid (la_list (M := M) (out := o) hs60 (fun i h => (hbits i h).1))
    have HBM := Lib.hid (fun j (hj : j < (bitL s).length) => (show ∃ f : Nat, atZ (bitL s) j = f ∧ f < N from by
      obtain ⟨f, h1, _, h3⟩ := (fltN_mem _ _ _).1 (show atZ (bitL s) j ∈ bitL s from by rw [← atZ_get hj]; exact List.getElem_mem hj)
      exact ⟨f, h1, (hbits f h3).1⟩))
    have HLL := Lib.hid (show (bitL s).length ≤ 60 from Nat.le_trans (fltN_len _ _) (bitLen_bound 60 s (by omega) hs60))
    have HWO := Lib.hid (fun (f : Nat) w (h : f ≤ 60) => implWithout s f w hs62 h)
    unfold IntIs at HWO
    have HSL := Lib.hid (fun (f : Nat) => Nat.lt_of_le_of_lt (subN_le s (2 ^ f)) hs62)
    have HTS := Lib.hid (fun j (hj : j < (bitL s).length) => (show ((bitL s).take (j + 1)).filter (fun x => laQ M N o s x.toNat) = ((bitL s).take j).filter (fun x => laQ M N o s x.toNat) ++ (if laQ M N o s (atZ (bitL s) j).toNat = true then [atZ (bitL s) j] else []) from by
      rw [List.take_succ_eq_append_getElem hj, List.filter_append, atZ_get hj]
      congr 1
      simp [List.filter_cons]))
    have HTE := Lib.hid (show ((bitL s).take (bitL s).length).filter (fun x => laQ M N o s x.toNat) = R from by rw [List.take_length, HF.out, HLA.out, Int.toNat_natCast])
    have HTL := Lib.hid (fun j => (show (((bitL s).take j).filter (fun x => laQ M N o s x.toNat)).length ≤ 60 from Nat.le_trans (List.length_filter_le _ _) (Nat.le_trans (by rw [List.length_take]; omega) HLL.out)))
    have HT0 := Lib.hid (show ((bitL s).take 0).filter (fun x => laQ M N o s x.toNat) = [] from rfl)
    have HQ := Lib.hid (fun f => (show laQ M N o s f = (decide (subN s (2 ^ f) = 0) || jndB M N o ((subN s (2 ^ f) : Nat) : Int)) from rfl))
    generalize laQ M N o s = Q at *
    generalize hX : (fun j => ((bitL s).take j).filter (fun x => Q x.toNat)) = X at *
    have HXX := Lib.hid (fun j => (show ((bitL s).take j).filter (fun x => Q x.toNat) = X j from by rw [← hX]))
    clear hX
    simp only [HXX.out] at HTS HTE HTL HT0
    clear HLA HF HYES HNO HXX hs20 hs60
    generalize bitL s = L at *
    obtain ⟨i0, hi, hz0, hz1, hz2⟩ := info_parts infoInt
    have HI := Lib.hid (And.intro hi (And.intro hz0 (And.intro hz1 hz2))); clear hi hz0 hz1 hz2
    have HO0 := Lib.hid (Ints.made w2 w2.heap.size w2.heap.size rfl (Nat.le_refl _))
    have G3 := Lib.hid (G2.out.alloc (.cells #[] 3))
    have hs12 : w1.heap.size ≤ w2.heap.size := G2.out.below.size
    obtain ⟨x0, x1, _⟩ := G2.out.1
    go_wp2_with fail
    refine (HLB.out _).mono ?_
    rintro e w4 ⟨v4, rfl, h4, hb⟩
    have hz4 : (w2.alloc (.cells #[] 3)).heap.size = w2.heap.size + 1 := by simp
    rw [hz4] at h4
    have HS4 := Lib.hid h4
    have HO4 := Lib.hid (HO0.out.step hb)
    have HBL4 := Lib.hid ((below_alloc w2 (.cells #[] 3)).trans (hb.mono (by simp)))
    obtain ⟨a4, c4, rfl, -⟩ := h4.form
    clear h4 hb x0 x1 HO0 G3
    go_wp2_with fail
    go_loopw [8, 26] (fun u i wr => ∃ j : Nat, j ≤ L.length ∧ i = .int .i64 j ∧ Ints wr w2.heap.size u (X j) ∧ Below w2.heap.size w2 wr ∧ Ints wr w2.heap.size (.slice a4 L.length c4) L ∧ (∀ k, u.ownBlock = some k → (Value.slice a4 L.length c4).ownBlock ≠ some k)) (fun _ i _ => L.length - (intOf i).toNat)
    case atStart => exact ⟨0, Nat.zero_le _, rfl, by rw [HT0.out]; exact HO4.out, HBL4.out, HS4.out.mono (Nat.le_succ _), fun k hk h2 => by
      have h3 : w2.heap.size = k := by simpa [Value.ownBlock] using hk
      have := (HS4.out.own k h2).1
      omega⟩
    case round =>
      clear HO4 HBL4 HS4
      obtain ⟨j, hj, rfl, hi, hb, hs, hne⟩ := hrel
      have HNE := Lib.hid hne; clear hne
      have HO := Lib.hid hi
      have HB := Lib.hid hb
      have HS := Lib.hid hs
      clear hi hb hs
      by_cases hlt : j < L.length
      · obtain ⟨gl, cl, el⟩ := HS.out.some_ (by omega)
        simp only [Value.slice.injEq] at el
        obtain ⟨rfl, -, -⟩ := el
        obtain ⟨cx, -, hgl0, -, -⟩ := HS.out.at_ (j := j) hlt
        obtain ⟨f, hf, hfN⟩ := HBM.out j hlt
        rw [hf] at cx
        have HTK := Lib.hid (HTS.out j hlt)
        rw [hf, Int.toNat_natCast] at HTK
        have HQF := Lib.hid (HQ.out f)
        have HWF := Lib.hid (HWO.out f wr (by omega))
        have HSF := Lib.hid (HSL.out f)
        have q0 : (0 : Int) ≤ j := by omega
        have q1 : (j : Int) < (L.length : Int) := by omega
        have hll := HLL.out
        clear hf
        generalize subN s (2 ^ f) = z at *
        go_wp2_with fail
        refine HWF.out.mono ?_
        rintro e w5 ⟨rfl, hb⟩
        have HO5 := Lib.hid (HO.out.step hb)
        have HB5 := Lib.hid (HB.out.trans (hb.mono HB.out.size))
        have HS5 := Lib.hid (HS.out.step hb)
        have G5 := Lib.hid (G2.out.step HB5.out)
        clear hb cx
        obtain ⟨x0, x1, _⟩ := G5.out.1
        by_cases hz : z = 0
        · have EQ := Lib.hid (show Q f = true from by rw [HQF.out, hz]; rfl)
          have e1 : ((z : Int) == 0) = true := by rw [hz]; rfl
          have HO3 := Lib.hid HO5.out
          have H3 := Lib.hid HB5.out
          have HS3 := Lib.hid HS5.out
          clear hz
          have EP := Lib.hid (show X (j + 1) = X j ++ [(f : Int)] from by rw [HTK.out, EQ.out]; rfl)
          have hsz := H3.out.size
          obtain ⟨a9, c9, rfl, -⟩ := HO3.out.form
          have htl := HTL.out j
          obtain ⟨hi, hz0, hz1, hz2⟩ := HI.out
          go_wp2_with (at_builtin; refine wpList_append_int rfl _ _ 27 rfl Tryz.underlying27 hi hz0 hz1 hz2 (World.ownsRow.alloc HO3.out _) rfl rfl (cell_new0 _ _ _) (by omega) (by simp; omega) ?_)
          intro v' w9 hown hgrow hfresh
          have hb9 := grown_below HO3.out hsz hgrow
          have H9 := Lib.hid (H3.out.trans hb9)
          have HS9 := Lib.hid ((Ints.step HS3.out ((Below.refl _ _).alloc (Nat.le_refl _) _)).grown hgrow (fun k hk e => HNE.out k e hk))
          have HN9 := Lib.hid (show ∀ k, v'.ownBlock = some k → (Value.slice (some ⟨gl, 0, none⟩) L.length c4).ownBlock ≠ some k from fun k hk => by
            rcases hfresh with e | e
            · exact HNE.out k (by rw [← e]; exact hk)
            · rw [e] at hk
              intro h2
              have := (HS3.out.own k h2).2
              simp at hk
              omega)
          have HO9 := Lib.hid (Ints.more (xs := X j) (x := (f : Int)) (by simpa using hown))
          clear hown hgrow hi hz0 hz1 hz2 hb9 hfresh
          go_wp2_with fail
          exact ⟨⟨j + 1, by omega, by go_num, by rw [EP.out]; exact HO9.out, H9.out, HS9.out, HN9.out⟩, by simp [intOf]; omega⟩
        · have e1 : ((z : Int) == 0) = false := by rw [beq_eq_false_iff_ne]; omega
          have HJZ := Lib.hid (HJ.out (z : Int) _ w5 (HV.out.step (G5.out.below)) (by have := HSF.out; omega))
          have HQ2 := Lib.hid (show Q f = jndB M N o (z : Int) from by rw [HQF.out, decide_eq_false hz]; rfl)
          clear hz
          generalize jndB M N o (z : Int) = jz at *
          go_wp2_with fail
          refine HJZ.out.mono ?_
          rintro e w6 ⟨rfl, hb⟩
          have HO3 := Lib.hid (HO5.out.step hb)
          have H3 := Lib.hid (HB5.out.trans (hb.mono HB5.out.size))
          have HS3 := Lib.hid (HS5.out.step hb)
          clear hb x0 x1
          cases jz
          · have EP := Lib.hid (show X (j + 1) = X j from by rw [HTK.out, HQ2.out]; simp)
            go_wp2_with fail
            exact ⟨⟨j + 1, by omega, by go_num, by rw [EP.out]; exact HO3.out, H3.out, HS3.out, HNE.out⟩, by simp [intOf]; omega⟩
          · have EQ := Lib.hid HQ2.out
            have EP := Lib.hid (show X (j + 1) = X j ++ [(f : Int)] from by rw [HTK.out, EQ.out]; rfl)
            have hsz := H3.out.size
            obtain ⟨a9, c9, rfl, -⟩ := HO3.out.form
            have htl := HTL.out j
            obtain ⟨hi, hz0, hz1, hz2⟩ := HI.out
            go_wp2_with (at_builtin; refine wpList_append_int rfl _ _ 27 rfl Tryz.underlying27 hi hz0 hz1 hz2 (World.ownsRow.alloc HO3.out _) rfl rfl (cell_new0 _ _ _) (by omega) (by simp; omega) ?_)
            intro v' w9 hown hgrow hfresh
            have hb9 := grown_below HO3.out hsz hgrow
            have H9 := Lib.hid (H3.out.trans hb9)
            have HS9 := Lib.hid ((Ints.step HS3.out ((Below.refl _ _).alloc (Nat.le_refl _) _)).grown hgrow (fun k hk e => HNE.out k e hk))
            have HN9 := Lib.hid (show ∀ k, v'.ownBlock = some k → (Value.slice (some ⟨gl, 0, none⟩) L.length c4).ownBlock ≠ some k from fun k hk => by
              rcases hfresh with e | e
              · exact HNE.out k (by rw [← e]; exact hk)
              · rw [e] at hk
                intro h2
                have := (HS3.out.own k h2).2
                simp at hk
                omega)
            have HO9 := Lib.hid (Ints.more (xs := X j) (x := (f : Int)) (by simpa using hown))
            clear hown hgrow hi hz0 hz1 hz2 hb9 hfresh
            go_wp2_with fail
            exact ⟨⟨j + 1, by omega, by go_num, by rw [EP.out]; exact HO9.out, H9.out, HS9.out, HN9.out⟩, by simp [intOf]; omega⟩
      · obtain rfl : j = L.length := by omega
        go_wp2_with fail
        go_ret
        exact ⟨_, rfl, by rw [← HTE.out]; exact HO.out.mono (Nat.le_trans hs1 hs12), HB2.out.trans (HB.out.mono HB2.out.size)⟩
end Go.Proofs.YtepacoacalhdcaaGreat
