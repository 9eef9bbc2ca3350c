/-
  FirstSpanning, of the model and of the program.
-/
import Derived.Test.YtmcbbjobjogkmaaGreatUfT
import Derived.Test.YtmcbbjobjogkmaaGreatDetL
import Derived.Test.YtmcbbjobjogkmaaGreatGlsF
import Derived.Deep.AppendLies
namespace Go.Proofs.YtmcbbjobjogkmaaGreat
open Go.RowKit Go.Maps
set_option linter.unusedVariables false
set_option linter.unusedSimpArgs false

noncomputable def fstL (ns ls : List Nd) : List Int := if wholeB ns ls = true then fltN (stpB (endP ls (fun k => k)) ns.length) ls.length else []

theorem fstL_len (ns ls : List Nd) : (fstL ns ls).length ≤ 20 := by
  unfold fstL
  split
  · rename_i hh
    have := fltN_len (stpB (endP ls (fun k => k)) ns.length) ls.length
    obtain ⟨-, -, h, -⟩ := whole_win hh
    omega
  · simp

set_option maxRecDepth 100000 in
set_option maxHeartbeats 4000000 in
theorem specFsp (ns ls : List Nd) (vn vl : Value) (w : World) (hn : Prs w vn ns) (hl : Prs w vl ls) :
    Calls Tryz.prog 22 #[.agg #[vn, vl]] w (IntsNew (fstL ns ls) w) := by
  have HWH := Lib.hid (fun w h1 h2 => specWhole ns ls vn vl w h1 h2)
  have HGR := Lib.hid (fun w h => specGroups ns.length w h)
  unfold IntsNew at HGR
  have HN := Lib.hid hn
  have HL := Lib.hid hl
  have hnl := hn.len
  have hll := hl.len
  have H0 := Lib.hid (held_pair w vn vl 32)
  obtain ⟨A, c, rfl⟩ := prs_form2 hn
  obtain ⟨A2, c2, rfl⟩ := prs_form2 hl
  clear hn hl
  obtain ⟨i0, hi, hz0, hz1, hz2⟩ := info_parts infoInt
  have HI := Lib.hid (And.intro hi (And.intro hz0 (And.intro hz1 hz2))); clear hi hz0 hz1 hz2
  have H1 := Lib.hid (H0.out.alloc (.cells #[] 3))
  have HO1 := Lib.hid (Ints.made (w.alloc (.cells #[.slice A ns.length c, .slice A2 ls.length c2] 32)) (w.heap.size + 1) (w.heap.size + 1) (by simp) (Nat.le_refl _))
  clear H0
  cases hh : wholeB ns ls
  · have HR := Lib.hid (show fstL ns ls = [] from by unfold fstL; rw [hh]; rfl)
    rw [HR.out]
    rw [hh] at HWH
    clear hh
    obtain ⟨x0, x1, _⟩ := H1.out.1
    go_enter Tryz.func22, Tryz.ntmps22
    go_wp2_with fail
    refine (HWH.out _ (HN.out.step H1.out.below) (HL.out.step H1.out.below)).mono ?_
    rintro e w2 ⟨rfl, hb⟩
    have H2 := Lib.hid (H1.out.step hb)
    have HO2 := Lib.hid (HO1.out.step hb); clear hb
    go_wp2_with fail
    go_ret
    exact ⟨_, rfl, HO2.out.mono (Nat.le_succ _), H2.out.below⟩
  · obtain ⟨hw, hl0, hl20, hn12⟩ := whole_win hh
    have HW := Lib.hid hw; clear hw
    have hn1 := (((winB_iff ns ls).1 HW.out).1.1).1
    have HR := Lib.hid (show fstL ns ls = fltN (stpB (endP ls (fun k => k)) ns.length) ls.length from by unfold fstL; rw [hh]; rfl)
    rw [HR.out]
    rw [hh] at HWH
    clear hh HR
    have HST := Lib.hid (fltN_succ (stpB (endP ls (fun k => k)) ns.length))
    have HZ := Lib.hid (show fltN (stpB (endP ls (fun k => k)) ns.length) 0 = [] from rfl)
    have HLN := Lib.hid (fltN_len (stpB (endP ls (fun k => k)) ns.length))
    have HSTP := Lib.hid (fun k => (show stpB (endP ls (fun k => k)) ns.length k = (atZ (grpL (endP ls (fun k => k)) ns.length k) (endP ls (fun k => k) k).1 != atZ (grpL (endP ls (fun k => k)) ns.length k) (endP ls (fun k => k) k).2) from rfl))
    have HGS := Lib.hid (fun k => (show grpL (endP ls (fun k => k)) ns.length (k + 1) = jnL (grpL (endP ls (fun k => k)) ns.length k) (endP ls (fun k => k) k).1 (endP ls (fun k => k) k).2 from rfl))
    have HGL := Lib.hid (fun k => grpL_len (endP ls (fun k => k)) ns.length k)
    have HGZ := Lib.hid (show grpL (endP ls (fun k => k)) ns.length 0 = numL ns.length from rfl)
    have HEP := Lib.hid (fun (k i j : Nat) (h : atN ls k = ⟨i, j⟩) => endP_is (ls := ls) (f := fun k => k) h)
    generalize hX : fltN (stpB (endP ls (fun k => k)) ns.length) = X at *
    clear hX
    generalize stpB (endP ls (fun k => k)) ns.length = ST at *
    generalize grpL (endP ls (fun k => k)) ns.length = G at *
    generalize endP ls (fun k => k) = EP at *
    obtain ⟨x0, x1, _⟩ := H1.out.1
    go_enter Tryz.func22, Tryz.ntmps22
    go_wp2_with fail
    refine (HWH.out _ (HN.out.step H1.out.below) (HL.out.step H1.out.below)).mono ?_
    rintro e w2 ⟨rfl, hb⟩
    have H2 := Lib.hid (H1.out.step hb)
    have HO2 := Lib.hid (HO1.out.step hb); clear hb x0 x1
    obtain ⟨x0, x1, _⟩ := H2.out.1
    go_wp2_with fail
    refine (HGR.out _ (by omega)).mono ?_
    rintro e w3 ⟨vg, rfl, hg, hb⟩
    have H3 := Lib.hid (H2.out.step hb)
    have HO3 := Lib.hid (HO2.out.step hb); clear hb
    obtain ⟨g, cg, hvg⟩ : ∃ g cg, vg = .slice (some ⟨g, 0, none⟩) ns.length cg := by
      obtain ⟨g, cg, h⟩ := hg.some_ (by rw [numL_len]; omega)
      exact ⟨g, cg, by rw [h, numL_len]⟩
    subst hvg
    have hgB := (hg.own g rfl).1
    have hO2 := (HO2.out.own (w.heap.size + 1) rfl).2
    have HG3 := Lib.hid (hg.mono (b' := w.heap.size + 1) (by omega)); clear hg
    have hgw : w.heap.size + 1 < g := by omega
    clear x0 x1 H1 H2 HO1 HO2
    go_wp2_with fail
    go_loopw [3, 5] (fun vo i wr => ∃ k : Nat, k ≤ ls.length ∧ i = .int .i64 k ∧ Ints wr (w.heap.size + 1) vo (X k) ∧ (∀ j, vo.ownBlock = some j → j ≠ g) ∧ Ints wr (w.heap.size + 1) (.slice (some ⟨g, 0, none⟩) ns.length cg) (G k) ∧ Held w wr [(w.heap.size, 0, .slice A ns.length c), (w.heap.size, 1, .slice A2 ls.length c2)]) (fun _ i _ => ls.length - (intOf i).toNat)
    case atStart => exact ⟨0, Nat.zero_le _, rfl, by rw [HZ.out]; exact HO3.out, fun j e => by simp [Value.ownBlock] at e; omega, by rw [HGZ.out]; exact HG3.out, H3.out⟩
    case round =>
      clear HG3 H3 HO3
      obtain ⟨k, hk, rfl, hox, hoj, hgk, hh⟩ := hrel
      have HO := Lib.hid hox; clear hox
      have HOJ := Lib.hid hoj; clear hoj
      have HGK := Lib.hid hgk; clear hgk
      have H3 := Lib.hid hh; clear hh
      by_cases hlt : k < ls.length
      · obtain ⟨i, j, hij, hin, hjn⟩ := lead_nat HW.out hlt
        have HEK := Lib.hid (HEP.out k i j hij)
        obtain ⟨bl, ol, cl, he, hbl2, hcl⟩ := prs_at2 HL.out hlt
        simp only [Value.slice.injEq] at he
        obtain ⟨rfl, -, -⟩ := he
        obtain ⟨c1, c2'⟩ := hcl k hlt
        rw [hij] at c1 c2'
        simp only at c1 c2'
        clear hcl hij
        have HSK := Lib.hid (show ST k = (atZ (G k) i != atZ (G k) j) from by rw [HSTP.out, HEK.out])
        have HGN := Lib.hid (show G (k + 1) = jnL (G k) i j from by rw [HGS.out, HEK.out])
        have HXK := Lib.hid (HST.out k)
        have hll := HLN.out k
        have hB3 := H3.out.below
        have H4 := Lib.hid (held_plus H3.out (gs := [(bl, ol + k * 2, .int .i64 (i : Int)), (bl, ol + k * 2 + 1, .int .i64 (j : Int))]) ⟨(hB3.cell (p := ⟨bl, ol + k * 2, none⟩) hbl2).trans c1, (hB3.cell (p := ⟨bl, ol + k * 2 + 1, none⟩) hbl2).trans c2', trivial⟩ ⟨Nat.lt_of_lt_of_le hbl2 hB3.size, Nat.lt_of_lt_of_le hbl2 hB3.size, trivial⟩)
        simp only [List.cons_append, List.nil_append] at H4
        clear c1 c2' hB3
        have p1 : (0 : Int) ≤ k := by omega
        have p2 : (k : Int) < (ls.length : Int) := by omega
        have HCL := fun W (hH : Held w W [(w.heap.size, 0, .slice A ns.length c), (w.heap.size, 1, .slice (some ⟨bl, ol, none⟩) ls.length c2), (bl, ol + k * 2, .int .i64 (i : Int)), (bl, ol + k * 2 + 1, .int .i64 (j : Int))]) (hX : Ints W (w.heap.size + 1) (.slice (some ⟨g, 0, none⟩) ns.length cg) (G k) ∧ Ints W (w.heap.size + 1) u3 (X k)) =>
          (specJoin (G k) i j (w.heap.size + 1) g cg ns.length W hX.1 (HGL.out k) hin hjn (by omega)).mono fun e w'' h => (show e = .returned (.bool (ST k)) ∧ (Held w w'' [(w.heap.size, 0, .slice A ns.length c), (w.heap.size, 1, .slice (some ⟨bl, ol, none⟩) ls.length c2), (bl, ol + k * 2, .int .i64 (i : Int)), (bl, ol + k * 2 + 1, .int .i64 (j : Int))] ∧ (Ints w'' (w.heap.size + 1) (.slice (some ⟨g, 0, none⟩) ns.length cg) (G (k + 1)) ∧ Ints w'' (w.heap.size + 1) u3 (X k))) from
            ⟨by rw [HSK.out]; exact h.1, hH.turn h.2.2 ⟨.inl (by omega), .inl (by omega), .inl (by omega), .inl (by omega), trivial⟩ (by omega), by rw [HGN.out]; exact h.2.1, hX.2.turn h.2.2 fun q e => by have := HOJ.out q e; omega⟩)
        have HCL := Lib.hid HCL
        clear HGN HEK
        have HXX := Lib.hid (And.intro HGK.out HO.out)
        obtain ⟨x0, x1, x2, x3, _⟩ := H4.out.1
        go_wp2_with fail
        clear x0 x1 x2 x3
        refine regionC (C := fun W => Held w W [(w.heap.size, 0, .slice A ns.length c), (w.heap.size, 1, .slice (some ⟨bl, ol, none⟩) ls.length c2), (bl, ol + k * 2, .int .i64 (i)), (bl, ol + k * 2 + 1, .int .i64 (j))]) (fun W => Held w W [(w.heap.size, 0, .slice A ns.length c), (w.heap.size, 1, .slice (some ⟨bl, ol, none⟩) ls.length c2), (bl, ol + k * 2, .int .i64 (i)), (bl, ol + k * 2 + 1, .int .i64 (j))] ∧ (fun W => Ints W (w.heap.size + 1) (.slice (some ⟨g, 0, none⟩) ns.length cg) (G k) ∧ Ints W (w.heap.size + 1) u3 (X k)) W) (by kernel_rfl) ⟨H4.out.drew, ⟨HXX.out.1.step ((Below.refl _ _).drew), HXX.out.2.step ((Below.refl _ _).drew)⟩⟩ ?_
        refine takeC (i := 0) (v := ?_) (Stable.and (Stable.held _ _) (Stable.and (stable_ints _ _ _) (stable_ints _ _ _))) (fun _ h => h.1) rfl (by kernel_rfl) (by kernel_rfl) (by kernel_rfl) (fun _ _ _ h => h) ?_ ?_
        rotate_left
        · first | (refine Or.inl ⟨by rfl, fun W hS => detR_value (w' := W) ?_ (Below.refl _ _)⟩; obtain ⟨x0, x1, x2, x3, _⟩ := hS.1; go_simp; first | done | with_reducible rfl) | fail
        simp only [Act.put, List.setIfInBounds_toArray, List.set_cons_zero, List.set_cons_succ]
        refine takeC (i := 1) (v := ?_) (Stable.and (Stable.held _ _) (Stable.and (stable_ints _ _ _) (stable_ints _ _ _))) (fun _ h => h.1) rfl (by kernel_rfl) (by kernel_rfl) (by kernel_rfl) (fun _ _ _ h => h) ?_ ?_
        rotate_left
        · first | (refine Or.inl ⟨by rfl, fun W hS => detR_value (w' := W) ?_ (Below.refl _ _)⟩; obtain ⟨x0, x1, x2, x3, _⟩ := hS.1; go_simp; first | done | with_reducible rfl) | fail
        simp only [Act.put, List.setIfInBounds_toArray, List.set_cons_zero, List.set_cons_succ]
        refine takeC (i := 2) (v := ?_) (Stable.and (Stable.held _ _) (Stable.and (stable_ints _ _ _) (stable_ints _ _ _))) (fun _ h => h.1) rfl (by kernel_rfl) (by kernel_rfl) (by kernel_rfl) (fun _ _ _ h => h) ?_ ?_
        rotate_left
        · first | (refine Or.inl ⟨by rfl, fun W hS => detR_value (w' := W) ?_ (Below.refl _ _)⟩; obtain ⟨x0, x1, x2, x3, _⟩ := hS.1; go_simp; first | done | with_reducible rfl) | fail
        simp only [Act.put, List.setIfInBounds_toArray, List.set_cons_zero, List.set_cons_succ]
        refine takeC (i := 3) (v := ?_) (Stable.and (Stable.held _ _) (Stable.and (stable_ints _ _ _) (stable_ints _ _ _))) (fun _ h => h.1) rfl (by kernel_rfl) (by kernel_rfl) (by kernel_rfl) (fun _ _ _ h => h) ?_ ?_
        rotate_left
        · first | (refine Or.inl ⟨by rfl, fun W hS => detR_value (w' := W) ?_ (Below.refl _ _)⟩; obtain ⟨x0, x1, x2, x3, _⟩ := hS.1; go_simp; first | done | with_reducible rfl) | fail
        simp only [Act.put, List.setIfInBounds_toArray, List.set_cons_zero, List.set_cons_succ]
        refine takeC (i := 4) (v := ?_) (Stable.and (Stable.held _ _) (Stable.and (stable_ints _ _ _) (stable_ints _ _ _))) (fun _ h => h.1) rfl (by kernel_rfl) (by kernel_rfl) (by kernel_rfl) (fun _ _ _ h => h) ?_ ?_
        rotate_left
        · first | (refine Or.inl ⟨by rfl, fun W hS => detR_value (w' := W) ?_ (Below.refl _ _)⟩; obtain ⟨x0, x1, x2, x3, _⟩ := hS.1; go_simp; first | done | with_reducible rfl) | fail
        simp only [Act.put, List.setIfInBounds_toArray, List.set_cons_zero, List.set_cons_succ]
        refine takeC (i := 5) (v := ?_) (Stable.and (Stable.held _ _) (Stable.and (stable_ints _ _ _) (stable_ints _ _ _))) (fun _ h => h.1) rfl (by kernel_rfl) (by kernel_rfl) (by kernel_rfl) (fun _ _ _ h => h) ?_ ?_
        rotate_left
        · first | (refine Or.inl ⟨by rfl, fun W hS => detR_value (w' := W) ?_ (Below.refl _ _)⟩; obtain ⟨x0, x1, x2, x3, _⟩ := hS.1; go_simp; first | done | with_reducible rfl) | fail
        simp only [Act.put, List.setIfInBounds_toArray, List.set_cons_zero, List.set_cons_succ]
        refine takeC (i := 6) (v := ?_) (Stable.and (Stable.held _ _) (Stable.and (stable_ints _ _ _) (stable_ints _ _ _))) (fun _ h => h.1) rfl (by kernel_rfl) (by kernel_rfl) (by kernel_rfl) (fun _ _ _ h => h) ?_ ?_
        rotate_left
        · first | (refine Or.inl ⟨by rfl, fun W hS => detR_value (w' := W) ?_ (Below.refl _ _)⟩; obtain ⟨x0, x1, x2, x3, _⟩ := hS.1; go_simp; first | done | with_reducible rfl) | fail
        simp only [Act.put, List.setIfInBounds_toArray, List.set_cons_zero, List.set_cons_succ]
        refine takeC (i := 7) (v := ?_) (Stable.and (Stable.held _ _) (Stable.and (stable_ints _ _ _) (stable_ints _ _ _))) (fun _ h => h.1) rfl (by kernel_rfl) (by kernel_rfl) (by kernel_rfl) (fun _ _ _ h => h) ?_ ?_
        rotate_left
        · first | (refine Or.inl ⟨by rfl, fun W hS => detR_value (w' := W) ?_ (Below.refl _ _)⟩; obtain ⟨x0, x1, x2, x3, _⟩ := hS.1; go_simp; first | done | with_reducible rfl) | fail
        simp only [Act.put, List.setIfInBounds_toArray, List.set_cons_zero, List.set_cons_succ]
        refine takeC (i := 8) (v := ?_) (Stable.and (Stable.held _ _) (Stable.and (stable_ints _ _ _) (stable_ints _ _ _))) (fun _ h => h.1) rfl (by kernel_rfl) (by kernel_rfl) (by kernel_rfl) (fun _ _ _ h => h) ?_ ?_
        rotate_left
        · first | (refine Or.inl ⟨by rfl, fun W hS => detR_value (w' := W) ?_ (Below.refl _ _)⟩; obtain ⟨x0, x1, x2, x3, _⟩ := hS.1; go_simp; first | done | with_reducible rfl) | fail
        simp only [Act.put, List.setIfInBounds_toArray, List.set_cons_zero, List.set_cons_succ]
        refine takeC (i := 9) (v := ?_) (Stable.and (Stable.held _ _) (Stable.and (stable_ints _ _ _) (stable_ints _ _ _))) (fun _ h => h.1) rfl (by kernel_rfl) (by kernel_rfl) (by kernel_rfl) (fun _ _ _ h => h) ?_ ?_
        rotate_left
        · first | (refine Or.inl ⟨by rfl, fun W hS => detR_value (w' := W) ?_ (Below.refl _ _)⟩; obtain ⟨x0, x1, x2, x3, _⟩ := hS.1; go_simp; first | done | with_reducible rfl) | fail
        simp only [Act.put, List.setIfInBounds_toArray, List.set_cons_zero, List.set_cons_succ]
        refine takeC (i := 10) (v := ?_) (Stable.and (Stable.held _ _) (Stable.and (stable_ints _ _ _) (stable_ints _ _ _))) (fun _ h => h.1) rfl (by kernel_rfl) (by kernel_rfl) (by kernel_rfl) (fun _ _ _ h => h) ?_ ?_
        rotate_left
        · first | (refine Or.inl ⟨by rfl, fun W hS => detR_value (w' := W) ?_ (Below.refl _ _)⟩; obtain ⟨x0, x1, x2, x3, _⟩ := hS.1; go_simp; first | done | with_reducible rfl) | fail
        simp only [Act.put, List.setIfInBounds_toArray, List.set_cons_zero, List.set_cons_succ]
        refine takeC (i := 11) (v := ?_) (Stable.and (Stable.held _ _) (Stable.and (stable_ints _ _ _) (stable_ints _ _ _))) (fun _ h => h.1) rfl (by kernel_rfl) (by kernel_rfl) (by kernel_rfl) (fun _ _ _ h => h) ?_ ?_
        rotate_left
        · first | (refine Or.inl ⟨by rfl, fun W hS => detR_value (w' := W) ?_ (Below.refl _ _)⟩; obtain ⟨x0, x1, x2, x3, _⟩ := hS.1; go_simp; first | done | with_reducible rfl) | fail
        simp only [Act.put, List.setIfInBounds_toArray, List.set_cons_zero, List.set_cons_succ]
        refine takeC (i := 12) (v := ?_) (Stable.and (Stable.held _ _) (Stable.and (stable_ints _ _ _) (stable_ints _ _ _))) (fun _ h => h.1) rfl (by kernel_rfl) (by kernel_rfl) (by kernel_rfl) (fun _ _ _ h => h) ?_ ?_
        rotate_left
        · first | (refine Or.inl ⟨by rfl, fun W hS => detR_value (w' := W) ?_ (Below.refl _ _)⟩; obtain ⟨x0, x1, x2, x3, _⟩ := hS.1; go_simp; first | done | with_reducible rfl) | fail
        simp only [Act.put, List.setIfInBounds_toArray, List.set_cons_zero, List.set_cons_succ]
        refine callC (i := 13) (.bool (ST k)) (fun W => Held w W [(w.heap.size, 0, .slice A ns.length c), (w.heap.size, 1, .slice (some ⟨bl, ol, none⟩) ls.length c2), (bl, ol + k * 2, .int .i64 (i)), (bl, ol + k * 2 + 1, .int .i64 (j))] ∧ (fun W => Ints W (w.heap.size + 1) (.slice (some ⟨g, 0, none⟩) ns.length cg) (G (k + 1)) ∧ Ints W (w.heap.size + 1) u3 (X k)) W) (Stable.and (Stable.held _ _) (Stable.and (stable_ints _ _ _) (stable_ints _ _ _))) (fun _ h => h.1) rfl (by kernel_rfl) (by rfl) (fun W hG => ?_) ?_
        · refine callD (w' := W) (f := ?_) (args := ?_) ?_ ?_; rotate_left 2; (go_simp; (refine ⟨?_, ?_⟩ <;> with_reducible rfl)); exact HCL.out W hG.1 hG.2
        simp only [Act.put, List.setIfInBounds_toArray, List.set_cons_zero, List.set_cons_succ]
        refine doneC (by kernel_rfl) fun wH5 HG => ?_
        obtain ⟨hH, hX⟩ := HG
        have H5 := Lib.hid hH; clear hH
        have XH5 := Lib.hid hX; clear hX
        try clear x0 x1 x2 x3
        obtain ⟨x0, x1, x2, x3, _⟩ := H5.out.1
        have H6 := Lib.hid (H5.out.only (gs := [(w.heap.size, 0, .slice A ns.length c), (w.heap.size, 1, .slice (some ⟨bl, ol, none⟩) ls.length c2)]) (fun ⟨a, b, _⟩ => ⟨a, b, trivial⟩) (fun ⟨a, b, _⟩ => ⟨a, b, trivial⟩))
        have HG := Lib.hid XH5.out.1
        replace HO := Lib.hid XH5.out.2
        clear XH5 HXX HCL HSK HGK H4 H5 x0 x1 x2 x3
        obtain ⟨x0, x1, _⟩ := H6.out.1
        generalize wH5 = w5 at *
        cases hd : ST k
        · rw [hd] at HXK
          have hX2 := Lib.hid (show X (k + 1) = X k from by rw [HXK.out]; rfl)
          go_wp2_with fail
          exact ⟨⟨k + 1, by omega, by go_num, by rw [hX2.out]; exact HO.out, HOJ.out, HG.out, H6.out⟩, by simp [intOf]; omega⟩
        · rw [hd] at HXK
          have hX2 := Lib.hid (show X (k + 1) = X k ++ [(k : Int)] from by rw [HXK.out]; rfl)
          have hz6 := H6.out.2.1.1
          obtain ⟨hi, hz0, hz1, hz2⟩ := HI.out
          obtain ⟨ao, co, rfl, -⟩ := HO.out.form
          go_wp2_with (at_builtin; refine wpList_append_lies _ rfl _ _ 26 rfl (w.heap.size + 1) 3 i0 (.int .i64 0) 1 8 Tryz.underlying26 hi hz0 hz1 hz2 rfl (by decide) (.slice ao (X k).length co) (X k).length ((X k).map fun x => Value.int .i64 x) rfl (World.ownsRow.alloc HO.out _) ⟨w5.heap.size, 0, none⟩ 1 1 [.int .i64 k] rfl rfl ?c1 ?c2 (by decide) ?c3 ?c4 ?c5 (w5.heap.size + 1) ?c6 ?_)
          try (case c1 => exact World.news_of_block (cs := #[.int .i64 k]) (heap_alloc_new w5 _))
          case c2 => simp [Value.oneCell']
          case c3 => unfold maxLen; omega
          case c4 => omega
          case c5 => first | (simp; omega) | omega
          try (case c6 => simp)
          intro g8 cap8 w8 hown8 hgrow8 hat8 hlt8
          have hrc : ∀ q, (Value.slice ao (X k).length co).ownBlock = some q → w.heap.size + 1 ≤ q := fun q e => (HO.out.own q e).1
          have hg5 := (HG.out.own g rfl).2
          have H8 := Lib.hid ((H6.out.step (below_alloc w5 (.cells #[.int .i64 k] 3))).grown hgrow8 ⟨fun e => by have := hrc _ e; omega, fun e => by have := hrc _ e; omega, trivial⟩ (fun q e => by have := hrc _ e; omega))
          have HG8 := Lib.hid ((HG.out.step (below_alloc w5 (.cells #[.int .i64 k] 3))).grown hgrow8 fun q e e2 => by simp [Value.ownBlock] at e; exact HOJ.out q e2 e.symm)
          have HO8 := Lib.hid (Ints.more hown8)
          have HJ8 := Lib.hid (show ∀ q, (Value.slice (some ⟨g8, 0, none⟩) ((X k).length + 1) cap8).ownBlock = some q → q ≠ g from fun q e => by
            simp [Value.ownBlock] at e
            subst e
            rcases hat8 with e2 | e2
            · exact HOJ.out _ e2
            · omega)
          clear hown8 hgrow8 hat8 hlt8 hrc x0 x1
          obtain ⟨x0, x1, _⟩ := H8.out.1
          go_wp2_with fail
          exact ⟨⟨k + 1, by omega, by go_num, by rw [hX2.out]; exact HO8.out, HJ8.out, HG8.out, H8.out⟩, by simp [intOf]; omega⟩
      · obtain rfl : k = ls.length := by omega
        obtain ⟨x0, x1, _⟩ := H3.out.1
        go_wp2_with fail
        go_ret
        exact ⟨_, rfl, HO.out.mono (Nat.le_succ _), H3.out.below⟩

theorem g_win {ns ls : List Nd} (h : 0 < (gL ns ls).length) : winB (gN ns ls) (gL ns ls) = true := by
  cases hh : wholeB ns ls
  · unfold gL at h
    rw [hh] at h
    simp at h
  · rw [show gN ns ls = ns from if_pos hh, show gL ns ls = ls from if_pos hh]
    exact (whole_win hh).1

theorem g_l20 (ns ls : List Nd) : (gL ns ls).length ≤ 20 := by
  cases hh : wholeB ns ls
  · rw [show gL ns ls = [] from by unfold gL; rw [hh]; rfl]
    simp
  · rw [show gL ns ls = ls from if_pos hh]
    exact (whole_win hh).2.2.1

theorem fst_g (ns ls : List Nd) : fstL ns ls = fltN (stpB (endP (gL ns ls) (fun k => k)) (gN ns ls).length) (gL ns ls).length := by
  cases hh : wholeB ns ls
  · rw [show gL ns ls = [] from by unfold gL; rw [hh]; rfl]
    unfold fstL
    rw [hh]
    rfl
  · rw [show gN ns ls = ns from if_pos hh, show gL ns ls = ls from if_pos hh]
    exact if_pos hh

set_option maxRecDepth 100000 in
set_option maxHeartbeats 4000000 in
theorem implFsp (ns ls : List Nd) (vn vl : Value) (w : World) (hn : Prs w vn ns) (hl : Prs w vl ls) :
    Calls Tryz.prog 23 #[.agg #[vn, vl]] w (IntsNew (fstL ns ls) w) := by
  have HN := Lib.hid hn
  have HL := Lib.hid hl
  have HGL := Lib.hid (fun w h1 h2 => implGlass ns ls vn vl w h1 h2)
  unfold GlassNew at HGL
  have H0 := Lib.hid (held_pair w vn vl 32)
  obtain ⟨A, c, rfl⟩ := prs_form2 hn
  obtain ⟨A2, c2, rfl⟩ := prs_form2 hl
  clear hn hl
  obtain ⟨i0, hi, hz0, hz1, hz2⟩ := info_parts infoInt
  have HI := Lib.hid (And.intro hi (And.intro hz0 (And.intro hz1 hz2))); clear hi hz0 hz1 hz2
  have hmm := @run_makeMap Tryz.prog
  obtain ⟨x0, x1, _⟩ := H0.out.1
  go_enter Tryz.func23, Tryz.ntmps23
  go_wp2_with fail
  refine (HGL.out _ (HN.out.step H0.out.below) (HL.out.step H0.out.below)).mono ?_
  rintro e w1 ⟨v1, v2, v3, v4, rfl, g1, g2, g3, g4, hb⟩
  have H1 := Lib.hid (H0.out.step hb)
  have G0 := Lib.hid (heldG w1 v1 v2 v3 v4 67)
  have B1 := Lib.hid (H1.out.below.trans (G0.out.below.mono H1.out.below.size))
  have G1 := Lib.hid (g1.step G0.out.below)
  have G2 := Lib.hid (g2.step G0.out.below)
  obtain ⟨A5, c5, rfl⟩ := prs_form2 g1
  obtain ⟨A6, c6, rfl⟩ := prs_form2 g2
  obtain ⟨A7, c7, rfl⟩ := faces_form g3
  obtain ⟨A8, c8, rfl⟩ := ints_form g4
  clear hb g1 g2 g3 g4 x0 x1
  have hs1 := H1.out.below.size
  generalize (wF ns ls).length = nf at *
  generalize (gA ns ls).length = na at *
  have HWG := Lib.hid (g_win (ns := ns) (ls := ls))
  have hl20 := g_l20 ns ls
  have HFS := Lib.hid (fst_g ns ls)
  generalize gN ns ls = ns' at *
  generalize gL ns ls = ls' at *
  have HST := Lib.hid (fltN_succ (stpB (endP ls' (fun k => k)) ns'.length))
  have HZ := Lib.hid (show fltN (stpB (endP ls' (fun k => k)) ns'.length) 0 = [] from rfl)
  have HLN := Lib.hid (fltN_len (stpB (endP ls' (fun k => k)) ns'.length))
  have HHDS := Lib.hid (fun k (hk : k < ls'.length) => stp_heads (atN ns') (endP ls' (fun k => k)) ns'.length (node_inj (HWG.out (by omega))) k (fun i hi => endP_lt (HWG.out (by omega)) (show i < ls'.length by omega)))
  have HJST := Lib.hid (fun k => (show stpJ (atN ns') (endP ls' (fun k => k)) (k + 1) = addJ (stpJ (atN ns') (endP ls' (fun k => k)) k) (atN ns' (endP ls' (fun k => k) k).1) (atN ns' (endP ls' (fun k => k) k).2) from rfl))
  have HJZ := Lib.hid (show stpJ (atN ns') (endP ls' (fun k => k)) 0 = [] from rfl)
  have HJO := Lib.hid (stpJ_ok (atN ns') (endP ls' (fun k => k)))
  have HJL := Lib.hid (stpJ_len (atN ns') (endP ls' (fun k => k)))
  have HFJ := Lib.hid (fun k (hk : k ≤ ls'.length) => FiledJ.stp (T := 75) (val := Nd.val) (nd := atN ns') (p := endP ls' (fun k => k)) k fun i hi => node_key (HWG.out (by omega)) (endP_lt (HWG.out (by omega)) (show i < ls'.length by omega)).1)
  have HEP := Lib.hid (fun (k i j : Nat) (h : atN ls' k = ⟨i, j⟩) => endP_is (ls := ls') (f := fun k => k) h)
  generalize hX : fltN (stpB (endP ls' (fun k => k)) ns'.length) = X at *
  clear hX
  generalize stpB (endP ls' (fun k => k)) ns'.length = ST at *
  generalize stpJ (atN ns') (endP ls' (fun k => k)) = JJ at *
  generalize endP ls' (fun k => k) = EP at *
  obtain ⟨TB, hTB⟩ : ∃ TB, TB = w1.heap.size + 1 + 1 := ⟨_, rfl⟩
  have HG1 := Lib.hid (show Held (w1.alloc (.cells #[.slice A5 ns'.length c5, .slice A6 ls'.length c6, .slice A7 nf c7, .slice A8 na c8] 67)) (w1.alloc (.cells #[.slice A5 ns'.length c5, .slice A6 ls'.length c6, .slice A7 nf c7, .slice A8 na c8] 67)) [(w1.heap.size, 0, .slice A5 ns'.length c5), (w1.heap.size, 1, .slice A6 ls'.length c6), (w1.heap.size, 2, .slice A7 nf c7), (w1.heap.size, 3, .slice A8 na c8)] from ⟨G0.out.1, G0.out.2.1, Below.refl _ _⟩)
  have HG3 := Lib.hid ((HG1.out.alloc (.map #[] 0)).alloc (.cells #[] 3))
  have HM3 := Lib.hid (show UfMap 75 Nd.val (((w1.alloc (.cells #[.slice A5 ns'.length c5, .slice A6 ls'.length c6, .slice A7 nf c7, .slice A8 na c8] 67)).alloc (.map #[] 0)).alloc (.cells #[] 3)) (w1.heap.size + 1) [] from by
    have h := (UfMap.made (K := Nd) (T := 75) (val := Nd.val) (w1.alloc (.cells #[.slice A5 ns'.length c5, .slice A6 ls'.length c6, .slice A7 nf c7, .slice A8 na c8] 67))).step (below_alloc _ (.cells #[] 3))
    rw [show (w1.alloc (.cells #[.slice A5 ns'.length c5, .slice A6 ls'.length c6, .slice A7 nf c7, .slice A8 na c8] 67)).heap.size = w1.heap.size + 1 from by simp] at h
    exact h)
  have HO3 := Lib.hid (Ints.made ((w1.alloc (.cells #[.slice A5 ns'.length c5, .slice A6 ls'.length c6, .slice A7 nf c7, .slice A8 na c8] 67)).alloc (.map #[] 0)) TB TB (by rw [hTB]; simp) (Nat.le_refl _))
  obtain ⟨y0, y1, y2, y3, _⟩ := G0.out.1
  clear G0 HG1 H1
  go_wp2_with fail
  clear y0 y1 y2 y3
  clear HGL hmm
  rw [← hTB]
  have hgs : (w1.alloc (.cells #[.slice A5 ns'.length c5, .slice A6 ls'.length c6, .slice A7 nf c7, .slice A8 na c8] 67)).heap.size = w1.heap.size + 1 := by simp
  generalize w1.alloc (.cells #[.slice A5 ns'.length c5, .slice A6 ls'.length c6, .slice A7 nf c7, .slice A8 na c8] 67) = Wg at *
  go_loopw [6, 22] (fun vo i wr => ∃ k : Nat, k ≤ ls'.length ∧ i = .int .i64 k ∧ Ints wr TB vo (X k) ∧ UfMap 75 Nd.val wr (w1.heap.size + 1) (JJ k) ∧ TB ≤ wr.heap.size ∧ Held Wg wr [(w1.heap.size, 0, .slice A5 ns'.length c5), (w1.heap.size, 1, .slice A6 ls'.length c6), (w1.heap.size, 2, .slice A7 nf c7), (w1.heap.size, 3, .slice A8 na c8)]) (fun _ i _ => ls'.length - (intOf i).toNat)
  case atStart => exact ⟨0, Nat.zero_le _, rfl, by rw [HZ.out]; exact HO3.out, by rw [HJZ.out]; exact HM3.out, by rw [hTB]; simp; omega, HG3.out⟩
  case round =>
    clear HO3 HM3 HG3
    have t1 : TB ≤ w1.heap.size + 1 + 1 := by omega
    have t2 : w1.heap.size + 1 + 1 ≤ TB := by omega
    have t3 : Wg.heap.size ≤ w1.heap.size + 1 := by omega
    have t4 : w1.heap.size + 1 ≤ Wg.heap.size := by omega
    clear hTB hgs
    obtain ⟨k, hk, rfl, hox, hmk, htb, hh⟩ := hrel
    have HO := Lib.hid hox; clear hox
    have HMK := Lib.hid hmk; clear hmk
    have H3 := Lib.hid hh; clear hh
    have P1 := Lib.hid (G1.out.step H3.out.below)
    have P2 := Lib.hid (G2.out.step H3.out.below)
    by_cases hlt : k < ls'.length
    · have HW := Lib.hid (HWG.out (by omega))
      obtain ⟨i, j, hij, hin, hjn⟩ := lead_nat HW.out hlt
      have HEK := Lib.hid (HEP.out k i j hij)
      obtain ⟨bl, ol, cl, he, hbl2, hcl⟩ := prs_at2 P2.out hlt
      simp only [Value.slice.injEq] at he
      obtain ⟨rfl, -, -⟩ := he
      obtain ⟨c1, c2'⟩ := hcl k hlt
      rw [hij] at c1 c2'
      simp only at c1 c2'
      clear hcl hij
      have HHD := Lib.hid (HHDS.out k hlt)
      have HJS := Lib.hid (HJST.out k)
      rw [HEK.out] at HHD HJS
      simp only at HHD HJS
      have HXK := Lib.hid (HST.out k)
      have hll := HLN.out k
      have HE := Lib.hid (fun W (h : Below wr.heap.size wr W) => implEnds2 ns' (.slice A5 ns'.length c5) i j W (P1.out.step h) hin hjn)
      have HKA := Lib.hid (node_key HW.out hin)
      have HKB := Lib.hid (node_key HW.out hjn)
      have HJN := Lib.hid (fun W (h : Below wr.heap.size wr W) => implJoinN (JJ k) (w1.heap.size + 1) (atN ns' i) (atN ns' j) W (HMK.out.step h) (HJO.out k) (HFJ.out k (by omega)) HKA.out HKB.out (by have := HJL.out k; omega))
      rw [← HHD.out, ← HJS.out] at HJN
      clear HKA HKB HHD HJS HEK
      generalize atN ns' i = na' at *
      generalize atN ns' j = nb at *
      obtain ⟨ax, ay⟩ := na'
      obtain ⟨bx, by'⟩ := nb
      unfold EndsIs at HE
      unfold Nd.val at HE HJN
      simp only at HE HJN
      have p1 : (0 : Int) ≤ k := by omega
      have p2 : (k : Int) < (ls'.length : Int) := by omega
      obtain ⟨x0, x1, x2, x3, _⟩ := H3.out.1
      obtain ⟨z0, _⟩ := H3.out.2.1
      go_wp2_with fail
      have hb5 := below_alloc wr (.cells #[.int .i64 i, .int .i64 j] 58)
      refine (HE.out _ hb5).mono ?_
      rintro e w6 ⟨rfl, hb6⟩
      have hb7 := hb5.trans (hb6.mono (by simp))
      have hb8 := (hb7.alloc hb7.size (.cells #[.int .i64 ax, .int .i64 ay] 75)).alloc (by have := hb7.size; simp; omega) (.cells #[.int .i64 bx, .int .i64 by'] 75)
      have HB8 := Lib.hid hb8
      clear hb5 hb6 hb7 hb8 x0 x1 x2 x3 c1 c2'
      go_wp2_with fail
      have HJ2 := Lib.hid (HJN.out _ HB8.out)
      cases hd : ST k
      · rw [hd] at HXK HJ2
        have hX2 := Lib.hid (show X (k + 1) = X k from by rw [HXK.out]; rfl)
        refine HJ2.out.mono ?_
        rintro e w9 ⟨rfl, hm9, ht9⟩
        have HT9 := Lib.hid ((Turn.of_below (Lo := w1.heap.size + 1) (Hi := w1.heap.size + 1 + 1) HB8.out).trans ht9)
        have HM9 := Lib.hid (show UfMap 75 Nd.val w9 (w1.heap.size + 1) (JJ (k + 1)) from hm9)
        clear hm9 ht9
        have H9 := Lib.hid (H3.out.turn HT9.out ⟨.inl (by omega), .inl (by omega), .inl (by omega), .inl (by omega), trivial⟩ (by omega))
        have HO9 := Lib.hid (HO.out.turn HT9.out fun q e => by have := (HO.out.own q e).1; omega)
        have hz9 := HT9.out.size
        go_wp2_with fail
        exact ⟨⟨k + 1, by omega, by go_num, by rw [hX2.out]; exact HO9.out, HM9.out, by omega, H9.out⟩, by simp [intOf]; omega⟩
      · rw [hd] at HXK HJ2
        have hX2 := Lib.hid (show X (k + 1) = X k ++ [(k : Int)] from by rw [HXK.out]; rfl)
        refine HJ2.out.mono ?_
        rintro e w9 ⟨rfl, hm9, ht9⟩
        have HT9 := Lib.hid ((Turn.of_below (Lo := w1.heap.size + 1) (Hi := w1.heap.size + 1 + 1) HB8.out).trans ht9)
        have HM9 := Lib.hid (show UfMap 75 Nd.val w9 (w1.heap.size + 1) (JJ (k + 1)) from hm9)
        clear hm9 ht9
        have H9 := Lib.hid (H3.out.turn HT9.out ⟨.inl (by omega), .inl (by omega), .inl (by omega), .inl (by omega), trivial⟩ (by omega))
        replace HO := Lib.hid (HO.out.turn HT9.out fun q e => by have := (HO.out.own q e).1; omega)
        have hz9 := HT9.out.size
        obtain ⟨hi, hz0, hz1, hz2⟩ := HI.out
        go_wp2_with (at_builtin; refine wpList_append_own _ rfl _ _ 26 rfl TB 3 i0 (.int .i64 0) 1 8 Tryz.underlying26 hi hz0 hz1 hz2 rfl (by decide) _ _ _ rfl (World.ownsRow.alloc HO.out _) ⟨_, 0, none⟩ 1 1 [.int .i64 k] rfl rfl ?c1 ?c2 ?c3 ?c4 ?c5 ?_)
        try (case c1 => exact cell_one_new _ _ _)
        case c2 => simp [Value.oneCell']
        case c3 => unfold maxLen; omega
        case c4 => omega
        case c5 => first | omega | (simp <;> omega)
        intro v' w8 hown hgrow _
        have H10 := Lib.hid (H9.out.stepB (B := TB) ⟨by omega, by omega, by omega, by omega, trivial⟩ (grown_below HO.out (by omega) hgrow) (by omega))
        have HO10 := Lib.hid (Ints.more hown)
        have HM10 := Lib.hid (UfMap.of_block HM9.out ((grown_below HO.out (by omega) hgrow).block _ (by omega)))
        have hz10 := (grown_below HO.out (by omega) hgrow).size
        clear hown hgrow
        go_wp2_with fail
        exact ⟨⟨k + 1, by omega, by go_num, by rw [hX2.out]; exact HO10.out, HM10.out, by omega, H10.out⟩, by simp [intOf]; omega⟩
    · obtain rfl : k = ls'.length := by omega
      go_wp2_with fail
      go_ret
      have hF := HO.out.mono (b' := w.heap.size) (by omega)
      exact ⟨u6, rfl, by rw [HFS.out]; exact hF, B1.out.trans (H3.out.below.mono B1.out.size)⟩
end Go.Proofs.YtmcbbjobjogkmaaGreat
