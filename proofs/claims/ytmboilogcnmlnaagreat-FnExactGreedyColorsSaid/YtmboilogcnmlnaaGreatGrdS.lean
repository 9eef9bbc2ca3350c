/-
  GreedyColors, of the model.
-/
import Derived.Test.YtmboilogcnmlnaaGreatGrdP
import Derived.Test.YtmboilogcnmlnaaGreatMat
namespace Go.Proofs.YtmboilogcnmlnaaGreat
open Go.RowKit
set_option linter.unusedVariables false
set_option linter.unusedSimpArgs false

/-- The colors of all faces of a whole window. -/
noncomputable def grdW (ns ls : List Nd) : List Int := if wholeB ns ls = true then grdL (besM (atW ns ls) ls.length) (wF ns ls).length else []

set_option maxRecDepth 100000 in
set_option maxHeartbeats 4000000 in
theorem specGreedy (ns ls : List Nd) (vn vl : Value) (w : World) (hn : Prs w vn ns) (hl : Prs w vl ls) :
    Calls Tryz.prog 34 #[.agg #[vn, vl]] w (IntsNew (grdW ns ls) w) := by
  have HW := Lib.hid (fun w h1 h2 => specWhole ns ls vn vl w h1 h2)
  have HM := Lib.hid (fun w h1 h2 (hh : wholeB ns ls = true) => specMat ns ls vn vl w h1 h2 hh)
  unfold MatNew at HM
  have h40 := wF_len (ns := ns) (ls := ls)
  have HN := Lib.hid hn
  have HL := Lib.hid hl
  have H0 := Lib.hid (held_pair w vn vl 31)
  obtain ⟨A, c, rfl⟩ := prs_form2 hn
  obtain ⟨A2, c2, rfl⟩ := prs_form2 hl
  clear hn hl
  obtain ⟨i0, hi, hz0, hz1, hz2⟩ := info_parts infoInt
  have HI := Lib.hid (And.intro hi (And.intro hz0 (And.intro hz1 hz2))); clear hi hz0 hz1 hz2
  have H1 := Lib.hid (H0.out.alloc (.cells #[] 3))
  have HO1 := Lib.hid (Ints.made (w.alloc (.cells #[.slice A ns.length c, .slice A2 ls.length c2] 31)) (w.heap.size + 1) (w.heap.size + 1) (by simp) (Nat.le_refl _))
  have HY := Lib.hid (show wholeB ns ls = true → grdW ns ls = grdL (besM (atW ns ls) ls.length) (wF ns ls).length from fun h => if_pos h)
  have HNY := Lib.hid (show wholeB ns ls = false → grdW ns ls = [] from fun h => if_neg (by rw [h]; simp))
  generalize grdW ns ls = R at *
  generalize wholeB ns ls = ok at *
  have HSY := Lib.hid (besM_sym (atW ns ls) ls.length)
  generalize besM (atW ns ls) ls.length = M at *
  generalize (wF ns ls).length = n at *
  have HLEN := Lib.hid (grdL_len M)
  have HSU := Lib.hid (grdL_succ M)
  have HZ := Lib.hid (show grdL M 0 = [] from rfl)
  have HMX := Lib.hid (fun k => mex_is M (grdL M k) k)
  have HEND := Lib.hid (fun k m c => mex_end (M := M) (xs := grdL M k) (k := k) (m := m) (c := c))
  have HUP := Lib.hid (fun k m c i => mex_up (M := M) (xs := grdL M k) (k := k) (m := m) (c := c) (i := i))
  generalize grdL M = G at *
  generalize hmx : (fun k => mexZ M (G k) k) = X at *
  have HMX := Lib.hid (fun k => (show ∃ m : Nat, X k = m ∧ m ≤ k ∧ freeC M (G k) k m = true ∧ ∀ j, j < m → freeC M (G k) k j = false from by rw [← hmx]; exact HMX.out k))
  have HSU := Lib.hid (fun k => (show G (k + 1) = G k ++ [X k] from by rw [← hmx]; exact HSU.out k))
  clear hmx
  go_enter Tryz.func34, Tryz.ntmps34
  obtain ⟨x0, x1, _⟩ := H1.out.1
  go_wp2_with fail
  refine (HW.out _ (HN.out.step H1.out.below) (HL.out.step H1.out.below)).mono ?_
  rintro e w1 ⟨rfl, hb⟩
  have H2 := Lib.hid (H1.out.step hb)
  have HO2 := Lib.hid (HO1.out.step hb)
  clear hb H0 H1 HO1 x0 x1
  obtain ⟨x0, x1, _⟩ := H2.out.1
  cases ok
  · go_wp2_with fail
    go_ret
    exact ⟨_, rfl, by rw [HNY.out (by first | rfl | trivial)]; exact HO2.out.mono (Nat.le_succ _), H2.out.below⟩
  · have hs1 := H2.out.2.1.1
    go_wp2_with fail
    refine (HM.out _ (HN.out.step H2.out.below) (HL.out.step H2.out.below) trivial).mono ?_
    rintro e w2 ⟨v, g, rfl, hm, hb⟩
    have H3 := Lib.hid (H2.out.step hb)
    have HO3 := Lib.hid (HO2.out.step hb)
    have HM3 := Lib.hid (hm.mono (b' := 0) (Nat.zero_le _))
    obtain ⟨am, cm, rfl, -⟩ := hm.form
    clear hm hb H2 HO2 x0 x1 HM hs1
    go_wp2_with fail
    go_loopw [3, 5] (fun u i wr => ∃ k : Nat, k ≤ n ∧ i = .int .i64 k ∧ Ints wr (w.heap.size + 1) u (G k) ∧ MatG wr 0 (.slice am n cm) g n n M ∧ Held w wr [(w.heap.size, 0, .slice A ns.length c), (w.heap.size, 1, .slice A2 ls.length c2)]) (fun _ i _ => n - (intOf i).toNat)
    case atStart => exact ⟨0, Nat.zero_le _, rfl, by rw [HZ.out]; exact HO3.out, HM3.out, H3.out⟩
    case round =>
      clear H3 HO3 HM3
      obtain ⟨k, hk, rfl, hown, hmm, hh⟩ := hrel
      have HO := Lib.hid hown; clear hown
      have HM := Lib.hid hmm; clear hmm
      have H1 := Lib.hid hh; clear hh
      by_cases hlt : k < n
      · obtain ⟨m, hmx, hmk, hmf, hmb⟩ := HMX.out k
        have HSK := Lib.hid (show G (k + 1) = G k ++ [(m : Int)] from by rw [HSU.out, hmx])
        have HMF := Lib.hid hmf
        have HEK := Lib.hid (fun c => HEND.out k m c hmb)
        have HUK := Lib.hid (fun c i => HUP.out k m c i hmf)
        have hl := HLEN.out k
        have HLK := Lib.hid hl
        clear hmx hmf hmb
        obtain ⟨gm, cm', hmv⟩ := HM.out.some_ (by omega)
        simp only [Value.slice.injEq] at hmv
        obtain ⟨rfl, -, rfl⟩ := hmv
        obtain ⟨au, cu, rfl, -⟩ := HO.out.form
        rw [hl] at HO ⊢
        have q1 : (k : Int) < (n : Int) := by omega
        go_wp2_with fail
        go_loopw [6, 7] (fun vc vi wq => ∃ cc i : Nat, vc = .int .i64 cc ∧ vi = .int .i64 i ∧ cc ≤ m ∧ i ≤ k ∧ (∀ j, j < i → M k j = true → atZ (G k) j ≠ (cc : Int)) ∧ wq = wr) (fun vc vi _ => (k + 1 - (intOf vc).toNat) * (k + 2) + (k - (intOf vi).toNat))
        case atStart => exact ⟨0, 0, rfl, rfl, Nat.zero_le _, Nat.zero_le _, fun j hj => by omega, rfl⟩
        case round =>
          obtain ⟨cc, i, rfl, rfl, hcm, hik, hno, rfl⟩ := hrel
          have HNO := Lib.hid hno; clear hno
          by_cases hi : i < k
          · have HUKI := Lib.hid (HUK.out cc i hcm hi)
            have hin : i < n := by omega
            obtain ⟨z0, hgk⟩ := HM.out.cellRow hin
            obtain ⟨z1, z2, z3⟩ := HM.out.cell hin hlt
            rw [HSY.out i k] at z1
            obtain ⟨gu, cu2, hu⟩ := HO.out.some_ (by rw [HLK.out]; omega)
            rw [HLK.out] at hu
            simp only [Value.slice.injEq] at hu
            obtain ⟨rfl, -, rfl⟩ := hu
            have HOI := Lib.hid HO.out
            obtain ⟨y0, -, y1, -, -⟩ := HOI.out.at_ (j := i) (by rw [HLK.out]; omega)
            unfold rowVal at z0
            have p1 : (0 : Int) ≤ k := by omega
            have p3 : (0 : Int) ≤ i := by omega
            have p4 : (i : Int) < (k : Int) := by omega
            have p5 : (i : Int) < (n : Int) := by omega
            have r1 : IntKind.i64.wrap ((cc : Int) + 1) = ((cc + 1 : Nat) : Int) := by rw [IntWalk.i64_in _ (by omega)]; omega
            have r2 : IntKind.i64.wrap ((i : Int) + 1) = ((i + 1 : Nat) : Int) := by rw [IntWalk.i64_in _ (by omega)]; omega
            have hdec : ∀ a : Nat, a + 1 ≤ k + 1 → (k - a) * (k + 2) + k < (k + 1 - a) * (k + 2) + (k - i) := fun a ha => by
              rw [show k + 1 - a = (k - a) + 1 from by omega, Nat.succ_mul]
              omega
            have HNX := Lib.hid (fun (h : ¬ (M k i = true ∧ atZ (G k) i = (cc : Int))) j (hj : j < i + 1) (h1 : M k j = true) => (show atZ (G k) j ≠ (cc : Int) from by
              by_cases e : j = i
              · subst e; exact fun h2 => h ⟨h1, h2⟩
              · exact HNO.out j (by omega) h1))
            cases hmki : M k i
            · rw [hmki] at z1 HNX
              go_wp2_with fail
              exact ⟨⟨cc, i + 1, rfl, by go_num, hcm, by omega, HNX.out (by simp), by first | rfl | trivial⟩, by simp [intOf]; omega⟩
            · rw [hmki] at z1 HNX HUKI
              by_cases hx : atZ (G k) i = (cc : Int)
              · have hup := HUKI.out rfl hx
                rw [hx] at y0
                have hd := hdec cc (by omega)
                go_wp2_with fail
                exact ⟨⟨cc + 1, 0, by go_num, by go_num, hup, Nat.zero_le _, fun j hj => by omega, by first | rfl | trivial⟩, by simp [intOf]; first | omega | exact hd⟩
              · have HNK := Lib.hid (HNX.out (by simp [hx]))
                have e1 : (atZ (G k) i == (cc : Int)) = false := by rw [beq_eq_false_iff_ne]; exact hx
                have e2 : decide (atZ (G k) i = (cc : Int)) = false := by simp [hx]
                go_wp2_with fail
                exact ⟨⟨cc, i + 1, rfl, by go_num, hcm, by omega, HNK.out, by first | rfl | trivial⟩, by simp [intOf]; omega⟩
          · obtain rfl : i = k := by omega
            obtain rfl : cc = m := HEK.out cc hcm HNO.out
            obtain ⟨hi, hz0, hz1, hz2⟩ := HI.out
            have hsz1 := H1.out.2.1.1
            go_wp2_with (at_builtin; refine wpList_append_own _ rfl _ _ 43 rfl (w.heap.size + 1) 3 i0 (.int .i64 0) 1 8 Tryz.underlying43 hi hz0 hz1 hz2 rfl (by decide) _ _ _ rfl (World.ownsRow.alloc HO.out _) ⟨_, 0, none⟩ 1 1 [.int .i64 cc] rfl rfl ?c1 ?c2 ?c3 ?c4 ?c5 ?_)
            case c1 => exact cell_one_new _ _ _
            case c2 => simp [Value.oneCell']
            case c3 => unfold maxLen; omega
            case c4 => omega
            case c5 => first | omega | (simp <;> omega)
            intro v' w5 hown hgrow _
            have H5 := Lib.hid (H1.out.stepB (B := w.heap.size + 1) ⟨Nat.lt_succ_self _, Nat.lt_succ_self _, trivial⟩ (grown_below HO.out hsz1 hgrow) (Nat.le_succ _))
            have HM5 := Lib.hid ((HM.out.step (below_alloc _ (.cells #[.int .i64 cc] 3))).grownI (HO.out.step (below_alloc _ _)) hgrow)
            have HO5 := Lib.hid (Ints.more (by rw [HLK.out]; exact hown)); clear hown hgrow
            go_wp2_with fail
            exact ⟨⟨i + 1, by omega, by go_num, by rw [HSK.out]; exact HO5.out, HM5.out, H5.out⟩, by simp [intOf]; omega⟩
      · obtain rfl : k = n := by omega
        go_wp2_with fail
        go_ret
        exact ⟨_, rfl, by rw [HY.out (by first | rfl | trivial)]; exact HO.out.mono (Nat.le_succ _), H1.out.below⟩
end Go.Proofs.YtmboilogcnmlnaaGreat
