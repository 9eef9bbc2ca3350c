/-
  The model's darts around a node.
-/
import Derived.Test.YtepacoacalhdcaaGreatG2
namespace Go.Proofs.YtepacoacalhdcaaGreat
open Go.RowKit
set_option linter.unusedVariables false
set_option linter.unusedSimpArgs false

theorem Ints.set_ {w : World} {B g c n : Nat} {xs : List Int} (h : Ints w B (.slice (some ⟨g, 0, none⟩) n c) xs) (hn : n = xs.length) (j : Nat) (x : Int) :
    Ints (w.setCell ⟨g, j, none⟩ (.int .i64 x)) B (.slice (some ⟨g, 0, none⟩) n c) (xs.set j x) := by
  subst hn
  have := (World.ownsRow.stored h j (.int .i64 x)).1
  unfold Ints
  rw [List.length_set, List.map_set]
  exact this

theorem Ints.at_ {w : World} {B g c n : Nat} {xs : List Int} (h : Ints w B (.slice (some ⟨g, 0, none⟩) n c) xs) {j : Nat} (hj : j < xs.length) :
    w.cell? ⟨g, j, none⟩ = some (.int .i64 (atZ xs j)) ∧ w.frozen? ⟨g, j, none⟩ = false ∧ g < w.heap.size ∧ B ≤ g ∧ n = xs.length := by
  obtain ⟨a, cap, e, _, hg⟩ := h.form
  obtain ⟨g', rfl, hB, hl, hc, hf⟩ := hg j hj
  injection e with e1 e2 e3
  injection e1 with e1
  injection e1 with e1
  subst e1
  rw [atZ_get hj] at hc
  exact ⟨hc, hf, hl, hB, e2⟩

theorem Ints.some_ {w : World} {B : Nat} {v : Value} {xs : List Int} (h : Ints w B v xs) (h0 : 0 < xs.length) : ∃ g c, v = .slice (some ⟨g, 0, none⟩) xs.length c := by
  obtain ⟨a, cap, rfl, _, hg⟩ := h.form
  obtain ⟨g, rfl, _⟩ := hg 0 h0
  exact ⟨g, cap, rfl⟩

theorem stable_ints (B : Nat) (v : Value) (xs : List Int) : Stable fun W => Ints W B v xs := fun _ _ h hb => h.step hb

theorem Held.setB {w W : World} {B g j : Nat} {x : Value} {fs : List (Nat × Nat × Value)} (h : Held w W fs) (hs : Bs B fs) (hg : B ≤ g) (hB : w.heap.size ≤ B) : Held w (W.setCell ⟨g, j, none⟩ x) fs :=
  h.stepB hs ((Below.refl B W).setCell (p := ⟨g, j, none⟩) hg x) hB

theorem aro_cells {w W : World} {fs : List (Nat × Nat × Value)} {b1 o1 : Nat} {ns : List Nd} (h : Held w W fs) (h1 : CellsAt W b1 o1 ns) (hb1 : b1 < W.heap.size)
    {k b x : Nat} (hk : k < ns.length) (hb : b < ns.length) (hx : x < ns.length) :
    Held w W (fs ++ (P1 b1 o1 ns k ++ (P1 b1 o1 ns b ++ P1 b1 o1 ns x))) :=
  ⟨h.1.append ((P1_cs h1 hk).append ((P1_cs h1 hb).append (P1_cs h1 hx))), h.2.1.append ((P1_bs hb1).append ((P1_bs hb1).append (P1_bs hb1))), h.2.2⟩

set_option maxRecDepth 100000 in
set_option maxHeartbeats 4000000 in
theorem specAro (ns ls : List Nd) (vn vl : Value) (k : Nat) (w : World) (hn : Prs w vn ns) (hl : Prs w vl ls) (hw : winB ns ls = true) (hk : k < ns.length) :
    Calls Tryz.prog 149 #[.agg #[vn, vl], .int .i64 k] w (IntsNew (aroL ns ls k (2 * ls.length)) w) := by
  have HN := Lib.hid hn
  have HL := Lib.hid hl
  obtain ⟨A, c, rfl⟩ := prs_form2 hn
  obtain ⟨A2, c2, rfl⟩ := prs_form2 hl
  clear hn hl
  obtain ⟨i0, hi, hz0, hz1, hz2⟩ := info_parts infoInt
  have HI := Lib.hid (And.intro hi (And.intro hz0 (And.intro hz1 hz2))); clear hi hz0 hz1 hz2
  have H0 := Lib.hid (held_pair w (.slice A ns.length c) (.slice A2 ls.length c2) 32)
  have h20 := ((winB_iff ns ls).1 hw).1.2
  have HD := Lib.hid (fun d => dart_nat (ns := ns) (ls := ls) (d := d) hw)
  have HE := Lib.hid (fun d w hv (hd : d < 2 * ls.length) => sEnds ls (.slice A ns.length c) (.slice A2 ls.length c2) d w hv hd h20)
  have HW := Lib.hid hw; clear hw
  go_enter Tryz.func149, Tryz.ntmps149
  go_wp2_with fail
  go_loopw [5, 6] (fun v i wr => ∃ m : Nat, m ≤ 2 * ls.length ∧ i = .int .i64 m ∧ Ints wr (w.heap.size + 1) v (aroL ns ls k m) ∧ Held w wr [(w.heap.size, 0, .slice A ns.length c), (w.heap.size, 1, .slice A2 ls.length c2)]) (fun _ i _ => 2 * ls.length - (intOf i).toNat)
  case atStart => exact ⟨0, Nat.zero_le _, rfl, Ints.made _ _ _ (by simp) (Nat.le_refl _), H0.out.alloc _⟩
  case round =>
    clear H0
    obtain ⟨m, hm, rfl, hown, hh⟩ := hrel
    have HOWN := Lib.hid hown; clear hown
    have H1 := Lib.hid hh; clear hh
    obtain ⟨x0, x1, _⟩ := H1.out.1
    by_cases hlt : m < 2 * ls.length
    · obtain ⟨a, b, hda, hdb, ha, hb, -⟩ := HD.out m hlt
      have HX := Lib.hid (fun w hv => HE.out m w hv hlt)
      rw [hda, hdb] at HX
      unfold TwoIs at HX
      have hz1 : (m : Int) < 2 * (ls.length : Int) := by omega
      have hz2 : (0 : Int) ≤ m := by omega
      by_cases hak : a = k
      · subst hak
        have HS := Lib.hid (show aroL ns ls a (m + 1) = insL (ltD ns ls a) m (aroL ns ls a m) from if_pos hda)
        have hll := aroL_len ns ls a m
        have HAT := Lib.hid (fun q (h : q < (aroL ns ls a m).length) => aroL_at h)
        generalize aroL ns ls a m = l at *
        go_wp2_with fail
        refine (HX.out _ (HL.out.step H1.out.below)).mono ?_
        rintro e w1 ⟨rfl, hb1⟩
        have HO1 := Lib.hid (HOWN.out.step hb1)
        have H3 := Lib.hid (H1.out.step hb1)
        clear hb1 x0 x1
        obtain ⟨a0, cp0, rfl, hlm, _⟩ := HO1.out.form
        have hsz1 := H3.out.2.1.1
        obtain ⟨hi, hz0, hz1', hz2'⟩ := HI.out
        go_wp2_with (at_builtin; refine wpList_append_own _ rfl _ _ 27 rfl (w.heap.size + 1) 3 i0 (.int .i64 0) 1 8 Tryz.underlying27 hi hz0 hz1' hz2' rfl (by decide) _ _ _ rfl (World.ownsRow.alloc HO1.out _) ⟨w1.heap.size, 0, none⟩ 1 1 [.int .i64 m] rfl rfl ?c1 ?c2 ?c3 ?c4 ?c5 ?_)
        case c1 => exact cell_one_new _ _ _
        case c2 => simp [Value.oneCell']
        case c3 => unfold maxLen; omega
        case c4 => omega
        case c5 => simp; omega
        intro v' w2 hown hgrow _
        have H4 := Lib.hid (H3.out.stepB (B := w.heap.size + 1) ⟨Nat.lt_succ_self _, Nat.lt_succ_self _, trivial⟩ (grown_below HO1.out hsz1 hgrow) (Nat.le_succ _))
        have HO2 := Lib.hid (Ints.more hown); clear hown hgrow
        obtain ⟨g, cp, rfl⟩ := HO2.out.some_ (by simp)
        obtain ⟨L, hlen1⟩ : ∃ L, (l ++ [(m : Int)]).length = L := ⟨_, rfl⟩
        rw [hlen1] at HO2 ⊢
        have hL : L = l.length + 1 := by rw [← hlen1]; simp
        have HLL := Lib.hid hL; clear hL
        clear hi hz0 hz1' hz2' hlen1
        go_wp2_with fail
        have HFIN := Lib.hid (show insM (ltD ns ls a) m l l.length = insL (ltD ns ls a) m l from rfl)
        rw [← openL_full] at HO2
        generalize insL (ltD ns ls a) m l = R at *
        go_loopw [9] (fun i wr => ∃ (q : Nat) (y : Int), q ≤ l.length ∧ i = .int .i64 q ∧ Ints wr (w.heap.size + 1) (.slice (some ⟨g, 0, none⟩) L cp) (openL l y q) ∧ insM (ltD ns ls a) m l q = R ∧ Held w wr [(w.heap.size, 0, .slice A ns.length c), (w.heap.size, 1, .slice A2 ls.length c2)]) (fun i _ => (intOf i).toNat)
        case atStart => exact ⟨l.length, m, Nat.le_refl _, rfl, HO2.out, HFIN.out, H4.out⟩
        case round =>
          clear H1 H3 H4 HO1 HO2 HOWN HFIN
          obtain ⟨q, y, hq, rfl, hown, hR, hh⟩ := hrel
          have HOWN := Lib.hid hown; clear hown
          have H1 := Lib.hid hh; clear hh
          have hol := openL_len l y q hq
          have hL := HLL.out
          cases q with
          | zero =>
            obtain ⟨c0, f0, hgl, hgB, -⟩ := HOWN.out.at_ (j := 0) (by omega)
            generalize atZ (openL l y 0) 0 = z at *
            have HSET := Lib.hid (HOWN.out.set_ (hL.trans hol.symm) 0 m)
            rw [openL_set l y m 0 (by omega), ← insM_zero (ltD ns ls a), hR] at HSET
            have HH := Lib.hid (H1.out.setB (j := 0) (x := .int .i64 m) (B := w.heap.size + 1) ⟨Nat.lt_succ_self _, Nat.lt_succ_self _, trivial⟩ hgB (Nat.le_succ _))
            have hz3 : (0 : Int) < (L : Int) := by omega
            clear hL
            rw [show ((0 : Nat) : Int) = 0 from rfl]
            go_wp2_with fail
            exact ⟨⟨m + 1, by omega, by go_num, by rw [HS.out]; exact HSET.out, HH.out⟩, by simp [intOf]; omega⟩
          | succ q =>
            obtain ⟨dx, hdx, hdm, hfx⟩ := HAT.out q (by omega)
            obtain ⟨_, bx, hfx', htx, -, hbx, -⟩ := HD.out dx (by omega)
            have HXX := Lib.hid (fun w hv => HE.out dx w hv (by omega))
            rw [hfx, htx] at HXX
            unfold TwoIs at HXX
            obtain ⟨c0, f0, hgl, hgB, -⟩ := HOWN.out.at_ (j := q) (by omega)
            obtain ⟨c1, f1, -, -, -⟩ := HOWN.out.at_ (j := q + 1) (by omega)
            rw [openL_at l y q (by omega), hdx] at c0
            obtain ⟨b1, o1, c3, he, hbl1, hcs1⟩ := prs_at2 (HN.out.step H1.out.below) hk
            injection he with he1 he2 he3
            subst he1
            clear he2 he3
            have H2 := Lib.hid (aro_cells (held_plus H1.out (gs := [(g, q, .int .i64 (dx : Int))]) ⟨c0, trivial⟩ ⟨hgl, trivial⟩) hcs1 hbl1 ha hb hbx)
            unfold P1 at H2
            simp only [List.cons_append, List.nil_append] at H2
            clear hcs1 c0 f0 c1 f1
            have HB := Lib.hid (specBefore (atN ns a) (atN ns b) (atN ns bx))
            have HLT := Lib.hid (show ltD ns ls a m (atZ l q) = beforeB (atN ns a) (atN ns b) (atN ns bx) from by unfold ltD; rw [hdx, Int.toNat_natCast, Int.toNat_natCast, hdb, htx]; rfl)
            unfold Nd.val at HB
            generalize beforeB (atN ns a) (atN ns b) (atN ns bx) = r at *
            generalize atN ns a = n1 at *
            generalize atN ns b = n2 at *
            generalize atN ns bx = n3 at *
            obtain ⟨ax, ay⟩ := n1
            obtain ⟨bx', by'⟩ := n2
            obtain ⟨qx, qy⟩ := n3
            simp only at H2 HB
            have p1 : (0 : Int) ≤ (q : Int) := by omega
            have p2 : (q : Int) < (L : Int) := by omega
            have p3 : (q : Int) + 1 < (L : Int) := by omega
            have p4 : (0 : Int) ≤ (q : Int) + 1 := by omega
            rw [show ((q + 1 : Nat) : Int) = (q : Int) + 1 from by omega]
            have ew : IntKind.i64.wrap (q : Int) = (q : Int) := by rw [IntWalk.i64_in _ (by omega)]
            clear hL
            have p5 : (0 : Int) ≤ a := by omega
            have p6 : (a : Int) < (ns.length : Int) := by omega
            have p7 : (0 : Int) ≤ b := by omega
            have p8 : (b : Int) < (ns.length : Int) := by omega
            have p9 : (0 : Int) ≤ bx := by omega
            have p10 : (bx : Int) < (ns.length : Int) := by omega
            have p11 : (0 : Int) < (q : Int) + 1 := by omega
            obtain ⟨x0, x1, x2, x3, x4, x5, x6, x7, x8, _⟩ := H2.out.1
            go_wp2_with fail
            refine regionW (fun W => (Held _ W [(w.heap.size, 0, .slice (some ⟨b1, o1, none⟩) ns.length c), (w.heap.size, 1, .slice A2 ls.length c2), (g, q, .int .i64 (dx)), (b1, o1 + a * 2, .int .i64 (ax)), (b1, o1 + a * 2 + 1, .int .i64 (ay)), (b1, o1 + b * 2, .int .i64 (bx')), (b1, o1 + b * 2 + 1, .int .i64 (by')), (b1, o1 + bx * 2, .int .i64 (qx)), (b1, o1 + bx * 2 + 1, .int .i64 (qy))]) ∧ Ints W (w.heap.size + 1) (.slice (some ⟨g, 0, none⟩) L cp) (openL l y (q + 1))) (by kernel_rfl) ⟨H2.out.drew, (HOWN.out).step ((Below.refl _ _).drew)⟩ ?_
            refine takeW (i := 0) (v := ?_) (Stable.and (Stable.held _ _) (stable_ints (w.heap.size + 1) (.slice (some ⟨g, 0, none⟩) L cp) (openL l y (q + 1)))) rfl (by kernel_rfl) (by kernel_rfl) (by kernel_rfl) (fun _ _ _ h => h) ?_ ?_
            rotate_left
            · first | (refine Or.inl ⟨by rfl, fun W hS => detR_value (w' := W) ?_ (Below.refl _ _)⟩; obtain ⟨hH, q1⟩ := hS; obtain ⟨x0, x1, x2, x3, x4, x5, x6, x7, x8, _⟩ := hH.1; go_simp; first | done | with_reducible rfl) | fail
            simp only [Act.put, List.setIfInBounds_toArray, List.set_cons_zero, List.set_cons_succ]
            refine takeW (i := 1) (v := ?_) (Stable.and (Stable.held _ _) (stable_ints (w.heap.size + 1) (.slice (some ⟨g, 0, none⟩) L cp) (openL l y (q + 1)))) rfl (by kernel_rfl) (by kernel_rfl) (by kernel_rfl) (fun _ _ _ h => h) ?_ ?_
            rotate_left
            · first | (refine Or.inl ⟨by rfl, fun W hS => detR_value (w' := W) ?_ (Below.refl _ _)⟩; obtain ⟨hH, q1⟩ := hS; obtain ⟨x0, x1, x2, x3, x4, x5, x6, x7, x8, _⟩ := hH.1; go_simp; first | done | with_reducible rfl) | fail
            simp only [Act.put, List.setIfInBounds_toArray, List.set_cons_zero, List.set_cons_succ]
            refine takeW (i := 2) (v := ?_) (Stable.and (Stable.held _ _) (stable_ints (w.heap.size + 1) (.slice (some ⟨g, 0, none⟩) L cp) (openL l y (q + 1)))) rfl (by kernel_rfl) (by kernel_rfl) (by kernel_rfl) (fun _ _ _ h => h) ?_ ?_
            rotate_left
            · first | (refine Or.inl ⟨by rfl, fun W hS => detR_value (w' := W) ?_ (Below.refl _ _)⟩; obtain ⟨hH, q1⟩ := hS; obtain ⟨x0, x1, x2, x3, x4, x5, x6, x7, x8, _⟩ := hH.1; go_simp; first | done | with_reducible rfl) | fail
            simp only [Act.put, List.setIfInBounds_toArray, List.set_cons_zero, List.set_cons_succ]
            refine takeW (i := 3) (v := ?_) (Stable.and (Stable.held _ _) (stable_ints (w.heap.size + 1) (.slice (some ⟨g, 0, none⟩) L cp) (openL l y (q + 1)))) rfl (by kernel_rfl) (by kernel_rfl) (by kernel_rfl) (fun _ _ _ h => h) ?_ ?_
            rotate_left
            · first | (refine Or.inl ⟨by rfl, fun W hS => detR_value (w' := W) ?_ (Below.refl _ _)⟩; obtain ⟨hH, q1⟩ := hS; obtain ⟨x0, x1, x2, x3, x4, x5, x6, x7, x8, _⟩ := hH.1; go_simp; first | done | with_reducible rfl) | fail
            simp only [Act.put, List.setIfInBounds_toArray, List.set_cons_zero, List.set_cons_succ]
            refine takeW (i := 4) (v := ?_) (Stable.and (Stable.held _ _) (stable_ints (w.heap.size + 1) (.slice (some ⟨g, 0, none⟩) L cp) (openL l y (q + 1)))) rfl (by kernel_rfl) (by kernel_rfl) (by kernel_rfl) (fun _ _ _ h => h) ?_ ?_
            rotate_left
            · first | (refine Or.inl ⟨by rfl, fun W hS => detR_value (w' := W) ?_ (Below.refl _ _)⟩; obtain ⟨hH, q1⟩ := hS; obtain ⟨x0, x1, x2, x3, x4, x5, x6, x7, x8, _⟩ := hH.1; go_simp; first | done | with_reducible rfl) | fail
            simp only [Act.put, List.setIfInBounds_toArray, List.set_cons_zero, List.set_cons_succ]
            refine takeW (i := 5) (v := ?_) (Stable.and (Stable.held _ _) (stable_ints (w.heap.size + 1) (.slice (some ⟨g, 0, none⟩) L cp) (openL l y (q + 1)))) rfl (by kernel_rfl) (by kernel_rfl) (by kernel_rfl) (fun _ _ _ h => h) ?_ ?_
            rotate_left
            · first | (refine Or.inl ⟨by rfl, fun W hS => detR_value (w' := W) ?_ (Below.refl _ _)⟩; obtain ⟨hH, q1⟩ := hS; obtain ⟨x0, x1, x2, x3, x4, x5, x6, x7, x8, _⟩ := hH.1; go_simp; first | done | with_reducible rfl) | fail
            simp only [Act.put, List.setIfInBounds_toArray, List.set_cons_zero, List.set_cons_succ]
            refine takeW (i := 6) (v := ?_) (Stable.and (Stable.held _ _) (stable_ints (w.heap.size + 1) (.slice (some ⟨g, 0, none⟩) L cp) (openL l y (q + 1)))) rfl (by kernel_rfl) (by kernel_rfl) (by kernel_rfl) (fun _ _ _ h => h) ?_ ?_
            rotate_left
            · first | (refine Or.inl ⟨by rfl, fun W hS => ?_⟩; obtain ⟨hH, q1⟩ := hS; refine detR_call (w' := W) (f := ?_) (args := ?_) ?_ ?_; rotate_left 2; (go_simp; (refine ⟨?_, ?_⟩ <;> with_reducible rfl)); (first | (with_reducible refine (HXX.out _ (HL.out.step hH.below)).mono ?_) | fail); (first | (rintro e wn ⟨rfl, hb⟩; refine ⟨?_, hb⟩; with_reducible rfl) | (rintro e wn ⟨rfl, rfl⟩; refine ⟨?_, Below.refl _ _⟩; with_reducible rfl) | fail)) | fail
            simp only [Act.put, List.setIfInBounds_toArray, List.set_cons_zero, List.set_cons_succ]
            refine takeW (i := 7) (v := ?_) (Stable.and (Stable.held _ _) (stable_ints (w.heap.size + 1) (.slice (some ⟨g, 0, none⟩) L cp) (openL l y (q + 1)))) rfl (by kernel_rfl) (by kernel_rfl) (by kernel_rfl) (fun _ _ _ h => h) ?_ ?_
            rotate_left
            · first | (refine Or.inl ⟨by rfl, fun W hS => detR_value (w' := W) ?_ (Below.refl _ _)⟩; obtain ⟨hH, q1⟩ := hS; obtain ⟨x0, x1, x2, x3, x4, x5, x6, x7, x8, _⟩ := hH.1; go_simp; first | done | with_reducible rfl) | fail
            simp only [Act.put, List.setIfInBounds_toArray, List.set_cons_zero, List.set_cons_succ]
            refine takeW (i := 8) (v := ?_) (Stable.and (Stable.held _ _) (stable_ints (w.heap.size + 1) (.slice (some ⟨g, 0, none⟩) L cp) (openL l y (q + 1)))) rfl (by kernel_rfl) (by kernel_rfl) (by kernel_rfl) (fun _ _ _ h => h) ?_ ?_
            rotate_left
            · first | (refine Or.inl ⟨by rfl, fun W hS => detR_value (w' := W) ?_ (Below.refl _ _)⟩; obtain ⟨hH, q1⟩ := hS; obtain ⟨x0, x1, x2, x3, x4, x5, x6, x7, x8, _⟩ := hH.1; go_simp; first | done | with_reducible rfl) | fail
            simp only [Act.put, List.setIfInBounds_toArray, List.set_cons_zero, List.set_cons_succ]
            refine takeW (i := 9) (v := ?_) (Stable.and (Stable.held _ _) (stable_ints (w.heap.size + 1) (.slice (some ⟨g, 0, none⟩) L cp) (openL l y (q + 1)))) rfl (by kernel_rfl) (by kernel_rfl) (by kernel_rfl) (fun _ _ _ h => h) ?_ ?_
            rotate_left
            · first | (refine Or.inl ⟨by rfl, fun W hS => detR_value (w' := W) ?_ (Below.refl _ _)⟩; obtain ⟨hH, q1⟩ := hS; obtain ⟨x0, x1, x2, x3, x4, x5, x6, x7, x8, _⟩ := hH.1; go_simp; first | done | with_reducible rfl) | fail
            simp only [Act.put, List.setIfInBounds_toArray, List.set_cons_zero, List.set_cons_succ]
            refine takeW (i := 10) (v := ?_) (Stable.and (Stable.held _ _) (stable_ints (w.heap.size + 1) (.slice (some ⟨g, 0, none⟩) L cp) (openL l y (q + 1)))) rfl (by kernel_rfl) (by kernel_rfl) (by kernel_rfl) (fun _ _ _ h => h) ?_ ?_
            rotate_left
            · first | (refine Or.inl ⟨by rfl, fun W hS => detR_value (w' := W) ?_ (Below.refl _ _)⟩; obtain ⟨hH, q1⟩ := hS; obtain ⟨x0, x1, x2, x3, x4, x5, x6, x7, x8, _⟩ := hH.1; go_simp; first | done | with_reducible rfl) | fail
            simp only [Act.put, List.setIfInBounds_toArray, List.set_cons_zero, List.set_cons_succ]
            refine takeW (i := 11) (v := ?_) (Stable.and (Stable.held _ _) (stable_ints (w.heap.size + 1) (.slice (some ⟨g, 0, none⟩) L cp) (openL l y (q + 1)))) rfl (by kernel_rfl) (by kernel_rfl) (by kernel_rfl) (fun _ _ _ h => h) ?_ ?_
            rotate_left
            · first | (refine Or.inl ⟨by rfl, fun W hS => detR_value (w' := W) ?_ (Below.refl _ _)⟩; obtain ⟨hH, q1⟩ := hS; obtain ⟨x0, x1, x2, x3, x4, x5, x6, x7, x8, _⟩ := hH.1; go_simp; first | done | with_reducible rfl) | fail
            simp only [Act.put, List.setIfInBounds_toArray, List.set_cons_zero, List.set_cons_succ]
            refine doneW (by kernel_rfl) fun wH3 HG => ?_
            obtain ⟨hH, q1⟩ := HG
            have H3 := Lib.hid hH; clear hH
            have MH3_q1 := Lib.hid q1; clear q1
            try clear x0 x1 x2 x3 x4 x5 x6 x7 x8
            obtain ⟨x0, x1, x2, x3, x4, x5, x6, x7, x8, _⟩ := H3.out.1
            go_wp2_with fail
            have HOL := Lib.hid hol; clear hol
            cases r
            · have HSTOP := Lib.hid ((insM_stop (ltD ns ls a) m l q HLT.out).symm.trans hR)
              refine regionW (fun W => (Held _ W [(w.heap.size, 0, .slice (some ⟨b1, o1, none⟩) ns.length c), (w.heap.size, 1, .slice A2 ls.length c2), (g, q, .int .i64 (dx)), (b1, o1 + a * 2, .int .i64 (ax)), (b1, o1 + a * 2 + 1, .int .i64 (ay)), (b1, o1 + b * 2, .int .i64 (bx')), (b1, o1 + b * 2 + 1, .int .i64 (by')), (b1, o1 + bx * 2, .int .i64 (qx)), (b1, o1 + bx * 2 + 1, .int .i64 (qy))]) ∧ Ints W (w.heap.size + 1) (.slice (some ⟨g, 0, none⟩) L cp) (openL l y (q + 1))) (by kernel_rfl) ⟨H3.out.drew, (MH3_q1.out).step ((Below.refl _ _).drew)⟩ ?_
              refine takeW (i := 0) (v := ?_) (Stable.and (Stable.held _ _) (stable_ints (w.heap.size + 1) (.slice (some ⟨g, 0, none⟩) L cp) (openL l y (q + 1)))) rfl (by kernel_rfl) (by kernel_rfl) (by kernel_rfl) (fun _ _ _ h => h) ?_ ?_
              rotate_left
              · first | (refine Or.inl ⟨by rfl, fun W hS => detR_value (w' := W) ?_ (Below.refl _ _)⟩; obtain ⟨hH, q1⟩ := hS; obtain ⟨x0, x1, x2, x3, x4, x5, x6, x7, x8, _⟩ := hH.1; go_simp; first | done | with_reducible rfl) | fail
              simp only [Act.put, List.setIfInBounds_toArray, List.set_cons_zero, List.set_cons_succ]
              refine takeW (i := 1) (v := ?_) (Stable.and (Stable.held _ _) (stable_ints (w.heap.size + 1) (.slice (some ⟨g, 0, none⟩) L cp) (openL l y (q + 1)))) rfl (by kernel_rfl) (by kernel_rfl) (by kernel_rfl) (fun _ _ _ h => h) ?_ ?_
              rotate_left
              · first | (refine Or.inl ⟨by rfl, fun W hS => detR_value (w' := W) ?_ (Below.refl _ _)⟩; obtain ⟨hH, q1⟩ := hS; obtain ⟨x0, x1, x2, x3, x4, x5, x6, x7, x8, _⟩ := hH.1; go_simp; first | done | with_reducible rfl) | fail
              simp only [Act.put, List.setIfInBounds_toArray, List.set_cons_zero, List.set_cons_succ]
              refine takeW (i := 2) (v := ?_) (Stable.and (Stable.held _ _) (stable_ints (w.heap.size + 1) (.slice (some ⟨g, 0, none⟩) L cp) (openL l y (q + 1)))) rfl (by kernel_rfl) (by kernel_rfl) (by kernel_rfl) (fun _ _ _ h => h) ?_ ?_
              rotate_left
              · first | (refine Or.inl ⟨by rfl, fun W hS => detR_value (w' := W) ?_ (Below.refl _ _)⟩; obtain ⟨hH, q1⟩ := hS; obtain ⟨x0, x1, x2, x3, x4, x5, x6, x7, x8, _⟩ := hH.1; go_simp; first | done | with_reducible rfl) | fail
              simp only [Act.put, List.setIfInBounds_toArray, List.set_cons_zero, List.set_cons_succ]
              refine takeW (i := 3) (v := ?_) (Stable.and (Stable.held _ _) (stable_ints (w.heap.size + 1) (.slice (some ⟨g, 0, none⟩) L cp) (openL l y (q + 1)))) rfl (by kernel_rfl) (by kernel_rfl) (by kernel_rfl) (fun _ _ _ h => h) ?_ ?_
              rotate_left
              · first | (refine Or.inl ⟨by rfl, fun W hS => detR_value (w' := W) ?_ (Below.refl _ _)⟩; obtain ⟨hH, q1⟩ := hS; obtain ⟨x0, x1, x2, x3, x4, x5, x6, x7, x8, _⟩ := hH.1; go_simp; first | done | with_reducible rfl) | fail
              simp only [Act.put, List.setIfInBounds_toArray, List.set_cons_zero, List.set_cons_succ]
              refine takeW (i := 4) (v := ?_) (Stable.and (Stable.held _ _) (stable_ints (w.heap.size + 1) (.slice (some ⟨g, 0, none⟩) L cp) (openL l y (q + 1)))) rfl (by kernel_rfl) (by kernel_rfl) (by kernel_rfl) (fun _ _ _ h => h) ?_ ?_
              rotate_left
              · first | (refine Or.inl ⟨by rfl, fun W hS => detR_value (w' := W) ?_ (Below.refl _ _)⟩; obtain ⟨hH, q1⟩ := hS; obtain ⟨x0, x1, x2, x3, x4, x5, x6, x7, x8, _⟩ := hH.1; go_simp; first | done | with_reducible rfl) | fail
              simp only [Act.put, List.setIfInBounds_toArray, List.set_cons_zero, List.set_cons_succ]
              refine takeW (i := 5) (v := ?_) (Stable.and (Stable.held _ _) (stable_ints (w.heap.size + 1) (.slice (some ⟨g, 0, none⟩) L cp) (openL l y (q + 1)))) rfl (by kernel_rfl) (by kernel_rfl) (by kernel_rfl) (fun _ _ _ h => h) ?_ ?_
              rotate_left
              · first | (refine Or.inl ⟨by rfl, fun W hS => detR_value (w' := W) ?_ (Below.refl _ _)⟩; obtain ⟨hH, q1⟩ := hS; obtain ⟨x0, x1, x2, x3, x4, x5, x6, x7, x8, _⟩ := hH.1; go_simp; first | done | with_reducible rfl) | fail
              simp only [Act.put, List.setIfInBounds_toArray, List.set_cons_zero, List.set_cons_succ]
              refine takeW (i := 6) (v := ?_) (Stable.and (Stable.held _ _) (stable_ints (w.heap.size + 1) (.slice (some ⟨g, 0, none⟩) L cp) (openL l y (q + 1)))) rfl (by kernel_rfl) (by kernel_rfl) (by kernel_rfl) (fun _ _ _ h => h) ?_ ?_
              rotate_left
              · first | (refine Or.inl ⟨by rfl, fun W hS => detR_value (w' := W) ?_ (Below.refl _ _)⟩; obtain ⟨hH, q1⟩ := hS; obtain ⟨x0, x1, x2, x3, x4, x5, x6, x7, x8, _⟩ := hH.1; go_simp; first | done | with_reducible rfl) | fail
              simp only [Act.put, List.setIfInBounds_toArray, List.set_cons_zero, List.set_cons_succ]
              refine takeW (i := 7) (v := ?_) (Stable.and (Stable.held _ _) (stable_ints (w.heap.size + 1) (.slice (some ⟨g, 0, none⟩) L cp) (openL l y (q + 1)))) rfl (by kernel_rfl) (by kernel_rfl) (by kernel_rfl) (fun _ _ _ h => h) ?_ ?_
              rotate_left
              · first | (refine Or.inl ⟨by rfl, fun W hS => detR_value (w' := W) ?_ (Below.refl _ _)⟩; obtain ⟨hH, q1⟩ := hS; obtain ⟨x0, x1, x2, x3, x4, x5, x6, x7, x8, _⟩ := hH.1; go_simp; first | done | with_reducible rfl) | fail
              simp only [Act.put, List.setIfInBounds_toArray, List.set_cons_zero, List.set_cons_succ]
              refine takeW (i := 8) (v := ?_) (Stable.and (Stable.held _ _) (stable_ints (w.heap.size + 1) (.slice (some ⟨g, 0, none⟩) L cp) (openL l y (q + 1)))) rfl (by kernel_rfl) (by kernel_rfl) (by kernel_rfl) (fun _ _ _ h => h) ?_ ?_
              rotate_left
              · first | (refine Or.inl ⟨by rfl, fun W hS => detR_value (w' := W) ?_ (Below.refl _ _)⟩; obtain ⟨hH, q1⟩ := hS; obtain ⟨x0, x1, x2, x3, x4, x5, x6, x7, x8, _⟩ := hH.1; go_simp; first | done | with_reducible rfl) | fail
              simp only [Act.put, List.setIfInBounds_toArray, List.set_cons_zero, List.set_cons_succ]
              refine takeW (i := 9) (v := ?_) (Stable.and (Stable.held _ _) (stable_ints (w.heap.size + 1) (.slice (some ⟨g, 0, none⟩) L cp) (openL l y (q + 1)))) rfl (by kernel_rfl) (by kernel_rfl) (by kernel_rfl) (fun _ _ _ h => h) ?_ ?_
              rotate_left
              · first | (refine Or.inl ⟨by rfl, fun W hS => detR_value (w' := W) ?_ (Below.refl _ _)⟩; obtain ⟨hH, q1⟩ := hS; obtain ⟨x0, x1, x2, x3, x4, x5, x6, x7, x8, _⟩ := hH.1; go_simp; first | done | with_reducible rfl) | fail
              simp only [Act.put, List.setIfInBounds_toArray, List.set_cons_zero, List.set_cons_succ]
              refine takeW (i := 10) (v := ?_) (Stable.and (Stable.held _ _) (stable_ints (w.heap.size + 1) (.slice (some ⟨g, 0, none⟩) L cp) (openL l y (q + 1)))) rfl (by kernel_rfl) (by kernel_rfl) (by kernel_rfl) (fun _ _ _ h => h) ?_ ?_
              rotate_left
              · first | (refine Or.inl ⟨by rfl, fun W hS => detR_value (w' := W) ?_ (Below.refl _ _)⟩; obtain ⟨hH, q1⟩ := hS; obtain ⟨x0, x1, x2, x3, x4, x5, x6, x7, x8, _⟩ := hH.1; go_simp; first | done | with_reducible rfl) | fail
              simp only [Act.put, List.setIfInBounds_toArray, List.set_cons_zero, List.set_cons_succ]
              refine takeW (i := 11) (v := ?_) (Stable.and (Stable.held _ _) (stable_ints (w.heap.size + 1) (.slice (some ⟨g, 0, none⟩) L cp) (openL l y (q + 1)))) rfl (by kernel_rfl) (by kernel_rfl) (by kernel_rfl) (fun _ _ _ h => h) ?_ ?_
              rotate_left
              · first | (refine Or.inl ⟨by rfl, fun W hS => detR_value (w' := W) ?_ (Below.refl _ _)⟩; obtain ⟨hH, q1⟩ := hS; obtain ⟨x0, x1, x2, x3, x4, x5, x6, x7, x8, _⟩ := hH.1; go_simp; first | done | with_reducible rfl) | fail
              simp only [Act.put, List.setIfInBounds_toArray, List.set_cons_zero, List.set_cons_succ]
              refine takeW (i := 12) (v := ?_) (Stable.and (Stable.held _ _) (stable_ints (w.heap.size + 1) (.slice (some ⟨g, 0, none⟩) L cp) (openL l y (q + 1)))) rfl (by kernel_rfl) (by kernel_rfl) (by kernel_rfl) (fun _ _ _ h => h) ?_ ?_
              rotate_left
              · first | (refine Or.inl ⟨by rfl, fun W hS => detR_value (w' := W) ?_ (Below.refl _ _)⟩; obtain ⟨hH, q1⟩ := hS; obtain ⟨x0, x1, x2, x3, x4, x5, x6, x7, x8, _⟩ := hH.1; go_simp; first | done | with_reducible rfl) | fail
              simp only [Act.put, List.setIfInBounds_toArray, List.set_cons_zero, List.set_cons_succ]
              refine takeW (i := 13) (v := ?_) (Stable.and (Stable.held _ _) (stable_ints (w.heap.size + 1) (.slice (some ⟨g, 0, none⟩) L cp) (openL l y (q + 1)))) rfl (by kernel_rfl) (by kernel_rfl) (by kernel_rfl) (fun _ _ _ h => h) ?_ ?_
              rotate_left
              · first | (refine Or.inl ⟨by rfl, fun W hS => detR_value (w' := W) ?_ (Below.refl _ _)⟩; obtain ⟨hH, q1⟩ := hS; obtain ⟨x0, x1, x2, x3, x4, x5, x6, x7, x8, _⟩ := hH.1; go_simp; first | done | with_reducible rfl) | fail
              simp only [Act.put, List.setIfInBounds_toArray, List.set_cons_zero, List.set_cons_succ]
              refine takeW (i := 14) (v := ?_) (Stable.and (Stable.held _ _) (stable_ints (w.heap.size + 1) (.slice (some ⟨g, 0, none⟩) L cp) (openL l y (q + 1)))) rfl (by kernel_rfl) (by kernel_rfl) (by kernel_rfl) (fun _ _ _ h => h) ?_ ?_
              rotate_left
              · first | (refine Or.inl ⟨by rfl, fun W hS => detR_value (w' := W) ?_ (Below.refl _ _)⟩; obtain ⟨hH, q1⟩ := hS; obtain ⟨x0, x1, x2, x3, x4, x5, x6, x7, x8, _⟩ := hH.1; go_simp; first | done | with_reducible rfl) | fail
              simp only [Act.put, List.setIfInBounds_toArray, List.set_cons_zero, List.set_cons_succ]
              refine takeW (i := 15) (v := ?_) (Stable.and (Stable.held _ _) (stable_ints (w.heap.size + 1) (.slice (some ⟨g, 0, none⟩) L cp) (openL l y (q + 1)))) rfl (by kernel_rfl) (by kernel_rfl) (by kernel_rfl) (fun _ _ _ h => h) ?_ ?_
              rotate_left
              · first | (refine Or.inl ⟨by rfl, fun W hS => ?_⟩; obtain ⟨hH, q1⟩ := hS; refine detR_call (w' := W) (f := ?_) (args := ?_) ?_ ?_; rotate_left 2; (go_simp; (refine ⟨?_, ?_⟩ <;> with_reducible rfl)); (first | (with_reducible refine (HB.out _).mono ?_) | fail); (first | (rintro e wn ⟨rfl, hb⟩; refine ⟨?_, hb⟩; with_reducible rfl) | (rintro e wn ⟨rfl, rfl⟩; refine ⟨?_, Below.refl _ _⟩; with_reducible rfl) | fail)) | fail
              simp only [Act.put, List.setIfInBounds_toArray, List.set_cons_zero, List.set_cons_succ]
              refine takeW (i := 16) (v := ?_) (Stable.and (Stable.held _ _) (stable_ints (w.heap.size + 1) (.slice (some ⟨g, 0, none⟩) L cp) (openL l y (q + 1)))) rfl (by kernel_rfl) (by kernel_rfl) (by kernel_rfl) (fun _ _ _ h => h) ?_ ?_
              rotate_left
              · first | (refine Or.inl ⟨by rfl, fun W hS => detR_value (w' := W) ?_ (Below.refl _ _)⟩; obtain ⟨hH, q1⟩ := hS; obtain ⟨x0, x1, x2, x3, x4, x5, x6, x7, x8, _⟩ := hH.1; go_simp; first | done | with_reducible rfl) | fail
              simp only [Act.put, List.setIfInBounds_toArray, List.set_cons_zero, List.set_cons_succ]
              refine doneW (by kernel_rfl) fun wH4 HG => ?_
              obtain ⟨hH, q1⟩ := HG
              have H4 := Lib.hid hH; clear hH
              have MH4_q1 := Lib.hid q1; clear q1
              try clear x0 x1 x2 x3 x4 x5 x6 x7 x8
              obtain ⟨x0, x1, x2, x3, x4, x5, x6, x7, x8, _⟩ := H4.out.1
              obtain ⟨c1, f1, -, -, -⟩ := MH4_q1.out.at_ (j := q + 1) (by rw [HOL.out]; omega)
              generalize atZ (openL l y (q + 1)) (q + 1) = z at *
              go_wp2_with fail
              have HSET := Lib.hid (MH4_q1.out.set_ (HLL.out.trans HOL.out.symm) (q + 1) m)
              rw [openL_set l y m (q + 1) hq, HSTOP.out] at HSET
              have HH := Lib.hid ((H4.out.only (gs := [(w.heap.size, 0, .slice (some ⟨b1, o1, none⟩) ns.length c), (w.heap.size, 1, .slice A2 ls.length c2)]) (fun ⟨a, b, _⟩ => ⟨a, b, trivial⟩) (fun ⟨a, b, _⟩ => ⟨a, b, trivial⟩)).setB (j := q + 1) (x := .int .i64 m) (B := w.heap.size + 1) ⟨Nat.lt_succ_self _, Nat.lt_succ_self _, trivial⟩ hgB (Nat.le_succ _))
              exact ⟨⟨m + 1, by omega, by go_num, by rw [HS.out]; exact HSET.out, HH.out⟩, by simp [intOf]; omega⟩
            · have HON := Lib.hid ((insM_on (ltD ns ls a) m l q HLT.out).symm.trans hR)
              refine regionW (fun W => (Held _ W [(w.heap.size, 0, .slice (some ⟨b1, o1, none⟩) ns.length c), (w.heap.size, 1, .slice A2 ls.length c2), (g, q, .int .i64 (dx)), (b1, o1 + a * 2, .int .i64 (ax)), (b1, o1 + a * 2 + 1, .int .i64 (ay)), (b1, o1 + b * 2, .int .i64 (bx')), (b1, o1 + b * 2 + 1, .int .i64 (by')), (b1, o1 + bx * 2, .int .i64 (qx)), (b1, o1 + bx * 2 + 1, .int .i64 (qy))]) ∧ Ints W (w.heap.size + 1) (.slice (some ⟨g, 0, none⟩) L cp) (openL l y (q + 1))) (by kernel_rfl) ⟨H3.out.drew, (MH3_q1.out).step ((Below.refl _ _).drew)⟩ ?_
              refine takeW (i := 0) (v := ?_) (Stable.and (Stable.held _ _) (stable_ints (w.heap.size + 1) (.slice (some ⟨g, 0, none⟩) L cp) (openL l y (q + 1)))) rfl (by kernel_rfl) (by kernel_rfl) (by kernel_rfl) (fun _ _ _ h => h) ?_ ?_
              rotate_left
              · first | (refine Or.inl ⟨by rfl, fun W hS => detR_value (w' := W) ?_ (Below.refl _ _)⟩; obtain ⟨hH, q1⟩ := hS; obtain ⟨x0, x1, x2, x3, x4, x5, x6, x7, x8, _⟩ := hH.1; go_simp; first | done | with_reducible rfl) | fail
              simp only [Act.put, List.setIfInBounds_toArray, List.set_cons_zero, List.set_cons_succ]
              refine takeW (i := 1) (v := ?_) (Stable.and (Stable.held _ _) (stable_ints (w.heap.size + 1) (.slice (some ⟨g, 0, none⟩) L cp) (openL l y (q + 1)))) rfl (by kernel_rfl) (by kernel_rfl) (by kernel_rfl) (fun _ _ _ h => h) ?_ ?_
              rotate_left
              · first | (refine Or.inl ⟨by rfl, fun W hS => detR_value (w' := W) ?_ (Below.refl _ _)⟩; obtain ⟨hH, q1⟩ := hS; obtain ⟨x0, x1, x2, x3, x4, x5, x6, x7, x8, _⟩ := hH.1; go_simp; first | done | with_reducible rfl) | fail
              simp only [Act.put, List.setIfInBounds_toArray, List.set_cons_zero, List.set_cons_succ]
              refine takeW (i := 2) (v := ?_) (Stable.and (Stable.held _ _) (stable_ints (w.heap.size + 1) (.slice (some ⟨g, 0, none⟩) L cp) (openL l y (q + 1)))) rfl (by kernel_rfl) (by kernel_rfl) (by kernel_rfl) (fun _ _ _ h => h) ?_ ?_
              rotate_left
              · first | (refine Or.inl ⟨by rfl, fun W hS => detR_value (w' := W) ?_ (Below.refl _ _)⟩; obtain ⟨hH, q1⟩ := hS; obtain ⟨x0, x1, x2, x3, x4, x5, x6, x7, x8, _⟩ := hH.1; go_simp; first | done | with_reducible rfl) | fail
              simp only [Act.put, List.setIfInBounds_toArray, List.set_cons_zero, List.set_cons_succ]
              refine takeW (i := 3) (v := ?_) (Stable.and (Stable.held _ _) (stable_ints (w.heap.size + 1) (.slice (some ⟨g, 0, none⟩) L cp) (openL l y (q + 1)))) rfl (by kernel_rfl) (by kernel_rfl) (by kernel_rfl) (fun _ _ _ h => h) ?_ ?_
              rotate_left
              · first | (refine Or.inl ⟨by rfl, fun W hS => detR_value (w' := W) ?_ (Below.refl _ _)⟩; obtain ⟨hH, q1⟩ := hS; obtain ⟨x0, x1, x2, x3, x4, x5, x6, x7, x8, _⟩ := hH.1; go_simp; first | done | with_reducible rfl) | fail
              simp only [Act.put, List.setIfInBounds_toArray, List.set_cons_zero, List.set_cons_succ]
              refine takeW (i := 4) (v := ?_) (Stable.and (Stable.held _ _) (stable_ints (w.heap.size + 1) (.slice (some ⟨g, 0, none⟩) L cp) (openL l y (q + 1)))) rfl (by kernel_rfl) (by kernel_rfl) (by kernel_rfl) (fun _ _ _ h => h) ?_ ?_
              rotate_left
              · first | (refine Or.inl ⟨by rfl, fun W hS => detR_value (w' := W) ?_ (Below.refl _ _)⟩; obtain ⟨hH, q1⟩ := hS; obtain ⟨x0, x1, x2, x3, x4, x5, x6, x7, x8, _⟩ := hH.1; go_simp; first | done | with_reducible rfl) | fail
              simp only [Act.put, List.setIfInBounds_toArray, List.set_cons_zero, List.set_cons_succ]
              refine takeW (i := 5) (v := ?_) (Stable.and (Stable.held _ _) (stable_ints (w.heap.size + 1) (.slice (some ⟨g, 0, none⟩) L cp) (openL l y (q + 1)))) rfl (by kernel_rfl) (by kernel_rfl) (by kernel_rfl) (fun _ _ _ h => h) ?_ ?_
              rotate_left
              · first | (refine Or.inl ⟨by rfl, fun W hS => detR_value (w' := W) ?_ (Below.refl _ _)⟩; obtain ⟨hH, q1⟩ := hS; obtain ⟨x0, x1, x2, x3, x4, x5, x6, x7, x8, _⟩ := hH.1; go_simp; first | done | with_reducible rfl) | fail
              simp only [Act.put, List.setIfInBounds_toArray, List.set_cons_zero, List.set_cons_succ]
              refine takeW (i := 6) (v := ?_) (Stable.and (Stable.held _ _) (stable_ints (w.heap.size + 1) (.slice (some ⟨g, 0, none⟩) L cp) (openL l y (q + 1)))) rfl (by kernel_rfl) (by kernel_rfl) (by kernel_rfl) (fun _ _ _ h => h) ?_ ?_
              rotate_left
              · first | (refine Or.inl ⟨by rfl, fun W hS => detR_value (w' := W) ?_ (Below.refl _ _)⟩; obtain ⟨hH, q1⟩ := hS; obtain ⟨x0, x1, x2, x3, x4, x5, x6, x7, x8, _⟩ := hH.1; go_simp; first | done | with_reducible rfl) | fail
              simp only [Act.put, List.setIfInBounds_toArray, List.set_cons_zero, List.set_cons_succ]
              refine takeW (i := 7) (v := ?_) (Stable.and (Stable.held _ _) (stable_ints (w.heap.size + 1) (.slice (some ⟨g, 0, none⟩) L cp) (openL l y (q + 1)))) rfl (by kernel_rfl) (by kernel_rfl) (by kernel_rfl) (fun _ _ _ h => h) ?_ ?_
              rotate_left
              · first | (refine Or.inl ⟨by rfl, fun W hS => detR_value (w' := W) ?_ (Below.refl _ _)⟩; obtain ⟨hH, q1⟩ := hS; obtain ⟨x0, x1, x2, x3, x4, x5, x6, x7, x8, _⟩ := hH.1; go_simp; first | done | with_reducible rfl) | fail
              simp only [Act.put, List.setIfInBounds_toArray, List.set_cons_zero, List.set_cons_succ]
              refine takeW (i := 8) (v := ?_) (Stable.and (Stable.held _ _) (stable_ints (w.heap.size + 1) (.slice (some ⟨g, 0, none⟩) L cp) (openL l y (q + 1)))) rfl (by kernel_rfl) (by kernel_rfl) (by kernel_rfl) (fun _ _ _ h => h) ?_ ?_
              rotate_left
              · first | (refine Or.inl ⟨by rfl, fun W hS => detR_value (w' := W) ?_ (Below.refl _ _)⟩; obtain ⟨hH, q1⟩ := hS; obtain ⟨x0, x1, x2, x3, x4, x5, x6, x7, x8, _⟩ := hH.1; go_simp; first | done | with_reducible rfl) | fail
              simp only [Act.put, List.setIfInBounds_toArray, List.set_cons_zero, List.set_cons_succ]
              refine takeW (i := 9) (v := ?_) (Stable.and (Stable.held _ _) (stable_ints (w.heap.size + 1) (.slice (some ⟨g, 0, none⟩) L cp) (openL l y (q + 1)))) rfl (by kernel_rfl) (by kernel_rfl) (by kernel_rfl) (fun _ _ _ h => h) ?_ ?_
              rotate_left
              · first | (refine Or.inl ⟨by rfl, fun W hS => detR_value (w' := W) ?_ (Below.refl _ _)⟩; obtain ⟨hH, q1⟩ := hS; obtain ⟨x0, x1, x2, x3, x4, x5, x6, x7, x8, _⟩ := hH.1; go_simp; first | done | with_reducible rfl) | fail
              simp only [Act.put, List.setIfInBounds_toArray, List.set_cons_zero, List.set_cons_succ]
              refine takeW (i := 10) (v := ?_) (Stable.and (Stable.held _ _) (stable_ints (w.heap.size + 1) (.slice (some ⟨g, 0, none⟩) L cp) (openL l y (q + 1)))) rfl (by kernel_rfl) (by kernel_rfl) (by kernel_rfl) (fun _ _ _ h => h) ?_ ?_
              rotate_left
              · first | (refine Or.inl ⟨by rfl, fun W hS => detR_value (w' := W) ?_ (Below.refl _ _)⟩; obtain ⟨hH, q1⟩ := hS; obtain ⟨x0, x1, x2, x3, x4, x5, x6, x7, x8, _⟩ := hH.1; go_simp; first | done | with_reducible rfl) | fail
              simp only [Act.put, List.setIfInBounds_toArray, List.set_cons_zero, List.set_cons_succ]
              refine takeW (i := 11) (v := ?_) (Stable.and (Stable.held _ _) (stable_ints (w.heap.size + 1) (.slice (some ⟨g, 0, none⟩) L cp) (openL l y (q + 1)))) rfl (by kernel_rfl) (by kernel_rfl) (by kernel_rfl) (fun _ _ _ h => h) ?_ ?_
              rotate_left
              · first | (refine Or.inl ⟨by rfl, fun W hS => detR_value (w' := W) ?_ (Below.refl _ _)⟩; obtain ⟨hH, q1⟩ := hS; obtain ⟨x0, x1, x2, x3, x4, x5, x6, x7, x8, _⟩ := hH.1; go_simp; first | done | with_reducible rfl) | fail
              simp only [Act.put, List.setIfInBounds_toArray, List.set_cons_zero, List.set_cons_succ]
              refine takeW (i := 12) (v := ?_) (Stable.and (Stable.held _ _) (stable_ints (w.heap.size + 1) (.slice (some ⟨g, 0, none⟩) L cp) (openL l y (q + 1)))) rfl (by kernel_rfl) (by kernel_rfl) (by kernel_rfl) (fun _ _ _ h => h) ?_ ?_
              rotate_left
              · first | (refine Or.inl ⟨by rfl, fun W hS => detR_value (w' := W) ?_ (Below.refl _ _)⟩; obtain ⟨hH, q1⟩ := hS; obtain ⟨x0, x1, x2, x3, x4, x5, x6, x7, x8, _⟩ := hH.1; go_simp; first | done | with_reducible rfl) | fail
              simp only [Act.put, List.setIfInBounds_toArray, List.set_cons_zero, List.set_cons_succ]
              refine takeW (i := 13) (v := ?_) (Stable.and (Stable.held _ _) (stable_ints (w.heap.size + 1) (.slice (some ⟨g, 0, none⟩) L cp) (openL l y (q + 1)))) rfl (by kernel_rfl) (by kernel_rfl) (by kernel_rfl) (fun _ _ _ h => h) ?_ ?_
              rotate_left
              · first | (refine Or.inl ⟨by rfl, fun W hS => detR_value (w' := W) ?_ (Below.refl _ _)⟩; obtain ⟨hH, q1⟩ := hS; obtain ⟨x0, x1, x2, x3, x4, x5, x6, x7, x8, _⟩ := hH.1; go_simp; first | done | with_reducible rfl) | fail
              simp only [Act.put, List.setIfInBounds_toArray, List.set_cons_zero, List.set_cons_succ]
              refine takeW (i := 14) (v := ?_) (Stable.and (Stable.held _ _) (stable_ints (w.heap.size + 1) (.slice (some ⟨g, 0, none⟩) L cp) (openL l y (q + 1)))) rfl (by kernel_rfl) (by kernel_rfl) (by kernel_rfl) (fun _ _ _ h => h) ?_ ?_
              rotate_left
              · first | (refine Or.inl ⟨by rfl, fun W hS => detR_value (w' := W) ?_ (Below.refl _ _)⟩; obtain ⟨hH, q1⟩ := hS; obtain ⟨x0, x1, x2, x3, x4, x5, x6, x7, x8, _⟩ := hH.1; go_simp; first | done | with_reducible rfl) | fail
              simp only [Act.put, List.setIfInBounds_toArray, List.set_cons_zero, List.set_cons_succ]
              refine takeW (i := 15) (v := ?_) (Stable.and (Stable.held _ _) (stable_ints (w.heap.size + 1) (.slice (some ⟨g, 0, none⟩) L cp) (openL l y (q + 1)))) rfl (by kernel_rfl) (by kernel_rfl) (by kernel_rfl) (fun _ _ _ h => h) ?_ ?_
              rotate_left
              · first | (refine Or.inl ⟨by rfl, fun W hS => ?_⟩; obtain ⟨hH, q1⟩ := hS; refine detR_call (w' := W) (f := ?_) (args := ?_) ?_ ?_; rotate_left 2; (go_simp; (refine ⟨?_, ?_⟩ <;> with_reducible rfl)); (first | (with_reducible refine (HB.out _).mono ?_) | fail); (first | (rintro e wn ⟨rfl, hb⟩; refine ⟨?_, hb⟩; with_reducible rfl) | (rintro e wn ⟨rfl, rfl⟩; refine ⟨?_, Below.refl _ _⟩; with_reducible rfl) | fail)) | fail
              simp only [Act.put, List.setIfInBounds_toArray, List.set_cons_zero, List.set_cons_succ]
              refine takeW (i := 16) (v := ?_) (Stable.and (Stable.held _ _) (stable_ints (w.heap.size + 1) (.slice (some ⟨g, 0, none⟩) L cp) (openL l y (q + 1)))) rfl (by kernel_rfl) (by kernel_rfl) (by kernel_rfl) (fun _ _ _ h => h) ?_ ?_
              rotate_left
              · first | (refine Or.inl ⟨by rfl, fun W hS => detR_value (w' := W) ?_ (Below.refl _ _)⟩; obtain ⟨hH, q1⟩ := hS; obtain ⟨x0, x1, x2, x3, x4, x5, x6, x7, x8, _⟩ := hH.1; go_simp; first | done | with_reducible rfl) | fail
              simp only [Act.put, List.setIfInBounds_toArray, List.set_cons_zero, List.set_cons_succ]
              refine doneW (by kernel_rfl) fun wH4 HG => ?_
              obtain ⟨hH, q1⟩ := HG
              have H4 := Lib.hid hH; clear hH
              have MH4_q1 := Lib.hid q1; clear q1
              try clear x0 x1 x2 x3 x4 x5 x6 x7 x8
              obtain ⟨x0, x1, x2, x3, x4, x5, x6, x7, x8, _⟩ := H4.out.1
              obtain ⟨c1, f1, -, -, -⟩ := MH4_q1.out.at_ (j := q + 1) (by rw [HOL.out]; omega)
              generalize atZ (openL l y (q + 1)) (q + 1) = z at *
              go_wp2_with fail
              have HSET := Lib.hid (MH4_q1.out.set_ (HLL.out.trans HOL.out.symm) (q + 1) (dx : Int))
              rw [openL_set l y _ (q + 1) hq, ← hdx, openL_down l y q (by omega), hdx] at HSET
              have HH := Lib.hid ((H4.out.only (gs := [(w.heap.size, 0, .slice (some ⟨b1, o1, none⟩) ns.length c), (w.heap.size, 1, .slice A2 ls.length c2)]) (fun ⟨a, b, _⟩ => ⟨a, b, trivial⟩) (fun ⟨a, b, _⟩ => ⟨a, b, trivial⟩)).setB (j := q + 1) (x := .int .i64 (dx : Int)) (B := w.heap.size + 1) ⟨Nat.lt_succ_self _, Nat.lt_succ_self _, trivial⟩ hgB (Nat.le_succ _))
              exact ⟨⟨q, dx, by omega, by go_num, HSET.out, HON.out, HH.out⟩, by simp [intOf]⟩
      · have g : ((a : Int) != k) = true := by simp; omega
        have HS := Lib.hid (show aroL ns ls k (m + 1) = aroL ns ls k m from if_neg (by rw [hda]; omega))
        go_wp2_with fail
        refine (HX.out _ (HL.out.step H1.out.below)).mono ?_
        rintro e w1 ⟨rfl, hb1⟩
        have HO1 := Lib.hid (HOWN.out.step hb1)
        have H3 := Lib.hid (H1.out.step hb1)
        clear hb1 x0 x1
        go_wp2_with fail
        exact ⟨⟨m + 1, by omega, by go_num, by rw [HS.out]; exact HO1.out, H3.out⟩, by simp [intOf]; omega⟩
    · obtain rfl : m = 2 * ls.length := by omega
      go_wp2_with fail
      go_ret
      exact ⟨_, rfl, HOWN.out.mono (by omega), H1.out.below⟩
end Go.Proofs.YtepacoacalhdcaaGreat
