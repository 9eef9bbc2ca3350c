/-
  DualDegree, of the program and of the model.
-/
import Derived.Test.YtnonebfdognlmaaGreatGlsV
namespace Go.Proofs.YtnonebfdognlmaaGreat
open Go.RowKit
set_option linter.unusedVariables false
set_option linter.unusedSimpArgs false

/-- Does the twin of d belong to another face than f? -/
def dualP (ds : List Int) (f : Int) (d : Nat) : Bool := atZ ds (tw d) != f
def cntR (ds : List Int) (f : Int) (r : List Int) : Nat → Int
  | 0 => 0
  | m + 1 => if dualP ds f (atZ r m).toNat = true then cntR ds f r m + 1 else cntR ds f r m
def cntS (ds : List Int) (f : Int) : Nat → Int
  | 0 => 0
  | n + 1 => if (atZ ds n == f && dualP ds f n) = true then cntS ds f n + 1 else cntS ds f n
theorem cntR_succ (ds : List Int) (f : Int) (r : List Int) (m : Nat) : cntR ds f r (m + 1) = if dualP ds f (atZ r m).toNat = true then cntR ds f r m + 1 else cntR ds f r m := rfl
theorem cntS_succ (ds : List Int) (f : Int) (n : Nat) : cntS ds f (n + 1) = if (atZ ds n == f && dualP ds f n) = true then cntS ds f n + 1 else cntS ds f n := rfl
theorem cntR_bd (ds : List Int) (f : Int) (r : List Int) : ∀ m, 0 ≤ cntR ds f r m ∧ cntR ds f r m ≤ m
  | 0 => ⟨Int.le_refl _, Int.le_refl _⟩
  | m + 1 => by have := cntR_bd ds f r m; rw [cntR_succ]; split <;> omega
theorem cntS_bd (ds : List Int) (f : Int) : ∀ m, 0 ≤ cntS ds f m ∧ cntS ds f m ≤ m
  | 0 => ⟨Int.le_refl _, Int.le_refl _⟩
  | m + 1 => by have := cntS_bd ds f m; rw [cntS_succ]; split <;> omega
theorem cntR_eq (ds : List Int) (f : Int) (r : List Int) : ∀ m, m ≤ r.length → cntR ds f r m = ((r.take m).countP (fun x => dualP ds f x.toNat) : Nat)
  | 0, _ => by simp [cntR]
  | m + 1, h => by
    rw [cntR_succ, cntR_eq ds f r m (by omega), List.take_succ_eq_append_getElem (show m < r.length by omega), List.countP_append, atZ_get (show m < r.length by omega)]
    by_cases hp : dualP ds f (atZ r m).toNat = true
    · rw [if_pos hp, List.countP_cons_of_pos (p := fun x : Int => dualP ds f x.toNat) hp]; simp
    · rw [if_neg hp, List.countP_cons_of_neg (p := fun x : Int => dualP ds f x.toNat) hp]; simp
theorem cntS_eq (ds : List Int) (f : Int) : ∀ n, cntS ds f n = ((List.range n).countP (fun d => atZ ds d == f && dualP ds f d) : Nat)
  | 0 => by simp [cntS]
  | n + 1 => by
    rw [cntS_succ, cntS_eq ds f n, List.range_succ, List.countP_append]
    by_cases hp : (atZ ds n == f && dualP ds f n) = true
    · rw [if_pos hp, List.countP_cons_of_pos (p := fun d => atZ ds d == f && dualP ds f d) hp]; simp
    · rw [if_neg hp, List.countP_cons_of_neg (p := fun d => atZ ds d == f && dualP ds f d) hp]; simp
theorem walk_nodup {ns ls : List Nd} {d : Nat} (hw : winB ns ls = true) (hd : d < 2 * ls.length) : (walkN ns ls d).Nodup := by
  obtain ⟨_, _, _, hmin⟩ := perN_spec hw hd
  unfold walkN wkL List.Nodup
  rw [List.pairwise_map]
  refine List.Pairwise.imp_of_mem (fun {a b} ha hb hab e => ?_) List.pairwise_lt_range
  rw [List.mem_range] at ha hb
  have e2 : itN (nxN ns ls) a d = itN (nxN ns ls) a (itN (nxN ns ls) (b - a) d) := by
    rw [← itN_add, show a + (b - a) = b by omega]; omega
  exact hmin (b - a) (by omega) (by omega) (itN_inj (nx_lt hw) (nx_inj hw) a _ _ hd (itN_lt (nx_lt hw) hd _) e2).symm
theorem row_perm {ns ls : List Nd} {k : Nat} (h : k < (wF ns ls).length) : (atR (wF ns ls) k).Perm (((List.range (2 * ls.length)).filter (fun d => atZ (atW ns ls) d == (k : Int))).map fun d : Nat => (d : Int)) := by
  obtain ⟨hh, d0, hd0, e0, _⟩ := wF_row h
  obtain ⟨hw, -, -, -⟩ := whole_win hh
  refine (List.perm_ext_iff_of_nodup (by rw [e0]; exact walk_nodup hw hd0) ?_).2 fun a => ?_
  · unfold List.Nodup
    rw [List.pairwise_map]
    exact (List.pairwise_lt_range.filter _).imp fun h => by omega
  · have hW : wF ns ls = facesL ns ls := if_pos hh
    rw [hW] at h ⊢
    simp only [List.mem_map, List.mem_filter, List.mem_range, beq_iff_eq]
    constructor
    · intro hm
      obtain ⟨i, hi, e⟩ := List.getElem_of_mem hm
      obtain ⟨q, h1, h2, h3⟩ := fix_walk hw h hi
      rw [atZ_get hi, h1] at e
      exact ⟨q, ⟨h2, by rw [atW_at h2, h3]⟩, e⟩
    · rintro ⟨d, ⟨h2, h3⟩, rfl⟩
      rw [atW_at h2] at h3
      have h4 := (fIx_at (faces_all hw _ d (Nat.le_refl _) h2)).1
      have h5 : fIx (facesL ns ls) (d : Int) = k := by omega
      rw [show fIx (facesN ns ls (2 * ls.length)) (d : Int) = k from h5] at h4
      exact List.contains_iff_mem.1 h4
theorem dual_eq {ns ls : List Nd} {k : Nat} (h : k < (wF ns ls).length) : cntR (atW ns ls) k (atR (wF ns ls) k) (atR (wF ns ls) k).length = cntS (atW ns ls) k (2 * ls.length) := by
  rw [cntR_eq _ _ _ _ (Nat.le_refl _), List.take_length, cntS_eq, (row_perm h).countP_eq, List.countP_map, List.countP_filter]
  congr 1
  refine List.countP_congr fun d _ => ?_
  simp only [Function.comp, Int.toNat_natCast, Bool.and_comm]
noncomputable def dualW (ns ls : List Nd) (f : Int) : Int := if idxB (wF ns ls).length f = true then cntS (atW ns ls) f (2 * ls.length) else -1

set_option maxRecDepth 100000 in
set_option maxHeartbeats 2000000 in
theorem implDualG (v1 v2 v3 v4 : Value) (rs : List (List Int)) (ds : List Int) (ns ls : List Nd) (B B2 k : Nat) (w : World) (hn : Prs w v1 ns) (hl : Prs w v2 ls) (hf : Faces w B v3 rs) (ha : Ints w B2 v4 ds) (hok : RowsOk ns ls rs) (hk : k < rs.length) (hds : ds.length = 2 * ls.length) (h20 : ls.length ≤ 20) :
    Calls Tryz.prog 77 #[.agg #[v1, v2, v3, v4], .int .i64 k] w (IntIs (cntR ds k (atR rs k) (atR rs k).length) w) := by
  have HG := Lib.hid (heldG w v1 v2 v3 v4 61)
  obtain ⟨a, c3, rfl, hmax, hro⟩ := hf.open_
  obtain ⟨g3, rfl, hg3, hrw⟩ := hro k hk
  obtain ⟨A5, c5, k0, hsq⟩ := hrw w (Below.refl _ _)
  obtain ⟨hw, hd, h4⟩ := hok.2 k hk
  have h40 := hok.1
  have HD := Lib.hid hd
  have HX := Lib.hid hsq
  obtain ⟨A, c, rfl⟩ := prs_form2 hn
  obtain ⟨A2, c2, rfl⟩ := prs_form2 hl
  obtain ⟨A4, c4, rfl⟩ := ints_form ha
  have HV := Lib.hid ha
  have H0 := Lib.hid (show Held w (w.alloc _) [(w.heap.size, 0, .slice A ns.length c), (w.heap.size, 1, .slice A2 ls.length c2), (w.heap.size, 2, .slice (some ⟨g3, 0, none⟩) rs.length c3), (w.heap.size, 3, .slice A4 ds.length c4), (g3, k, .slice A5 (atR rs k).length c5)] from
    ⟨⟨HG.out.1.1, HG.out.1.2.1, HG.out.1.2.2.1, HG.out.1.2.2.2.1, by rw [HG.out.below.cell (p := ⟨g3, k, none⟩) hg3]; exact k0, trivial⟩, ⟨HG.out.2.1.1, HG.out.2.1.1, HG.out.2.1.1, HG.out.2.1.1, Nat.lt_of_lt_of_le hg3 HG.out.below.size, trivial⟩, HG.out.below⟩)
  have HU := Lib.hid (fun m q (hq : atZ (atR rs k) m = (q : Nat)) => show cntR ds k (atR rs k) (m + 1) = if dualP ds k q = true then cntR ds k (atR rs k) m + 1 else cntR ds k (atR rs k) m from by rw [cntR_succ, hq]; rfl)
  have HP := Lib.hid (fun q => show dualP ds (k : Int) q = (atZ ds (tw q) != (k : Int)) from rfl)
  have HBD := Lib.hid (cntR_bd ds k (atR rs k))
  have HZ := Lib.hid (show cntR ds k (atR rs k) 0 = 0 from rfl)
  have HT := Lib.hid (fun (q : Nat) w (h : q < 2 * ls.length) => (show Calls Tryz.prog 102 #[.int .i64 q] w (IntIs (tw q : Nat) w) from by
    have := implTwin (q : Int) w; rw [twinI_tw (by omega)] at this; exact this))
  unfold IntIs at HT
  have HDS := Lib.hid hds
  clear HG hro hrw k0 hsq hw hd hok hf ha hn hl hds
  have q1 : (0 : Int) ≤ k := by omega
  have q2 : (k : Int) < (rs.length : Int) := by omega
  generalize cntR ds k (atR rs k) = Y at *
  generalize atR rs k = r at *
  obtain ⟨x0, x1, x2, x3, x4, _⟩ := H0.out.1
  go_enter Tryz.func77, Tryz.ntmps77
  go_wp2_with fail
  clear x0 x1 x2 x3 x4
  go_loopw [5, 14] (fun v i wr => ∃ m : Nat, m ≤ r.length ∧ i = .int .i64 m ∧ v = .int .i64 (Y m) ∧ Held w wr [(w.heap.size, 0, .slice A ns.length c), (w.heap.size, 1, .slice A2 ls.length c2), (w.heap.size, 2, .slice (some ⟨g3, 0, none⟩) rs.length c3), (w.heap.size, 3, .slice A4 ds.length c4)]) (fun _ i _ => r.length - (intOf i).toNat)
  case atStart => exact ⟨0, Nat.zero_le _, rfl, by rw [HZ.out], H0.out.only (fun ⟨a, b, c, d, _⟩ => ⟨a, b, c, d, trivial⟩) (fun ⟨a, b, c, d, _⟩ => ⟨a, b, c, d, trivial⟩)⟩
  case round =>
    clear H0
    obtain ⟨m, hm, rfl, rfl, hh⟩ := hrel
    have H1 := Lib.hid hh; clear hh
    by_cases hlt : m < r.length
    · have p1 : (0 : Int) ≤ m := by omega
      have p2 : (m : Int) < (r.length : Int) := by omega
      obtain ⟨q, hq, hqN⟩ := HD.out m hlt
      have HUM := Lib.hid (HU.out m q hq)
      have hbd := HBD.out m
      obtain ⟨A6, c6, e6, -, -, hcs⟩ := (HX.out.step H1.out.below).form
      simp only [Value.slice.injEq] at e6
      obtain ⟨rfl, -, -⟩ := e6
      obtain ⟨bb, oo, rfl, hbl, hc⟩ := hcs m hlt
      rw [hq] at hc
      have htd : tw q < ds.length := by have := HDS.out; have := tw_lt hqN; omega
      obtain ⟨gd, cd, ed⟩ := HV.out.some_ (by omega)
      simp only [Value.slice.injEq] at ed
      obtain ⟨rfl, -, -⟩ := ed
      obtain ⟨d0, -, hgd, -, -⟩ := (HV.out.step H1.out.below).at_ (j := tw q) htd
      have H2 := Lib.hid (held_plus H1.out (gs := [(bb, oo + m, .int .i64 (q : Int)), (gd, tw q, .int .i64 (atZ ds (tw q)))]) ⟨hc, d0, trivial⟩ ⟨hbl, hgd, trivial⟩)
      have HTQ := Lib.hid (fun w => HT.out q w hqN)
      have HPQ := Lib.hid (HP.out q)
      have e1 : IntKind.i64.wrap (Y m + 1) = Y m + 1 := IntWalk.i64_in _ (by omega)
      have t1 : (0 : Int) ≤ (tw q : Nat) := by omega
      have t2 : ((tw q : Nat) : Int) < (ds.length : Int) := by omega
      clear hq hcs hc d0 hbl hgd
      generalize Y m = y at *
      generalize tw q = t at *
      generalize atZ ds t = z at *
      obtain ⟨x0, x1, x2, x3, x4, x5, _⟩ := H2.out.1
      by_cases hzf : z = (k : Int)
      · have gz : (z != (k : Int)) = false := by simp [hzf]
        rw [HPQ.out, gz, if_neg (by simp)] at HUM
        clear hzf HPQ
        go_wp2_with fail
        refine regionD (S := fun W => Held _ W [(w.heap.size, 0, .slice A ns.length c), (w.heap.size, 1, .slice A2 ls.length c2), (w.heap.size, 2, .slice (some ⟨g3, 0, none⟩) rs.length c3), (w.heap.size, 3, .slice (some ⟨gd, 0, none⟩) ds.length c4), (bb, oo + m, .int .i64 (q)), (gd, t, .int .i64 (z))]) (by kernel_rfl) H2.out.drew ?_
        iterate 8 (refine takeT (v := ?_) rfl (by kernel_rfl) (by kernel_rfl) (by kernel_rfl) ?_ ?_; rotate_left; (first | (refine Or.inr ⟨by rfl, ?_⟩; with_reducible rfl) | (refine Or.inl ⟨by rfl, fun W hS => detRes_value (w' := W) ?_ hS⟩; obtain ⟨x0, x1, x2, x3, x4, x5, _⟩ := hS.1; go_simp; first | done | with_reducible rfl) | (refine Or.inl ⟨by rfl, fun W hS => ?_⟩; refine detRes_call (w' := W) (f := ?_) (args := ?_) ?_ ?_; rotate_left 2; (go_simp; (refine ⟨?_, ?_⟩ <;> with_reducible rfl)); (first | (with_reducible refine (HTQ.out _).mono ?_) | fail); (first | (rintro e wn ⟨rfl, hb⟩; refine ⟨?_, hS.step hb⟩; with_reducible rfl) | (rintro e wn ⟨rfl, rfl⟩; refine ⟨?_, hS⟩; with_reducible rfl) | fail)) | fail); (simp only [Act.put, List.setIfInBounds_toArray, List.set_cons_zero, List.set_cons_succ]))
        refine doneD (by kernel_rfl) fun wH3 HS => ?_
        have H3 := Lib.hid HS; clear HS
        try clear x0 x1 x2 x3 x4 x5
        obtain ⟨x0, x1, x2, x3, x4, x5, _⟩ := H3.out.1
        go_wp2_with fail
        exact ⟨⟨m + 1, by omega, by go_num, by rw [HUM.out], H3.out.only (fun ⟨a, b, c, d, _⟩ => ⟨a, b, c, d, trivial⟩) (fun ⟨a, b, c, d, _⟩ => ⟨a, b, c, d, trivial⟩)⟩, by simp [intOf]; omega⟩
      · have gz : (z != (k : Int)) = true := by simp [hzf]
        rw [HPQ.out, gz, if_pos rfl] at HUM
        clear hzf HPQ
        go_wp2_with fail
        refine regionD (S := fun W => Held _ W [(w.heap.size, 0, .slice A ns.length c), (w.heap.size, 1, .slice A2 ls.length c2), (w.heap.size, 2, .slice (some ⟨g3, 0, none⟩) rs.length c3), (w.heap.size, 3, .slice (some ⟨gd, 0, none⟩) ds.length c4), (bb, oo + m, .int .i64 (q)), (gd, t, .int .i64 (z))]) (by kernel_rfl) H2.out.drew ?_
        iterate 8 (refine takeT (v := ?_) rfl (by kernel_rfl) (by kernel_rfl) (by kernel_rfl) ?_ ?_; rotate_left; (first | (refine Or.inr ⟨by rfl, ?_⟩; with_reducible rfl) | (refine Or.inl ⟨by rfl, fun W hS => detRes_value (w' := W) ?_ hS⟩; obtain ⟨x0, x1, x2, x3, x4, x5, _⟩ := hS.1; go_simp; first | done | with_reducible rfl) | (refine Or.inl ⟨by rfl, fun W hS => ?_⟩; refine detRes_call (w' := W) (f := ?_) (args := ?_) ?_ ?_; rotate_left 2; (go_simp; (refine ⟨?_, ?_⟩ <;> with_reducible rfl)); (first | (with_reducible refine (HTQ.out _).mono ?_) | fail); (first | (rintro e wn ⟨rfl, hb⟩; refine ⟨?_, hS.step hb⟩; with_reducible rfl) | (rintro e wn ⟨rfl, rfl⟩; refine ⟨?_, hS⟩; with_reducible rfl) | fail)) | fail); (simp only [Act.put, List.setIfInBounds_toArray, List.set_cons_zero, List.set_cons_succ]))
        refine doneD (by kernel_rfl) fun wH3 HS => ?_
        have H3 := Lib.hid HS; clear HS
        try clear x0 x1 x2 x3 x4 x5
        obtain ⟨x0, x1, x2, x3, x4, x5, _⟩ := H3.out.1
        go_wp2_with fail
        exact ⟨⟨m + 1, by omega, by go_num, by rw [HUM.out], H3.out.only (fun ⟨a, b, c, d, _⟩ => ⟨a, b, c, d, trivial⟩) (fun ⟨a, b, c, d, _⟩ => ⟨a, b, c, d, trivial⟩)⟩, by simp [intOf]; omega⟩
    · obtain rfl : m = r.length := by omega
      go_wp2_with fail
      go_ret
      exact ⟨rfl, H1.out.below⟩

set_option maxRecDepth 100000 in
theorem implDual (ns ls : List Nd) (vn vl : Value) (f : Int) (w : World) (hn : Prs w vn ns) (hl : Prs w vl ls) :
    Calls Tryz.prog 48 #[.agg #[vn, vl], .int .i64 f] w (IntIs (dualW ns ls f) w) := by
  have HH := Lib.hid (fun (A1 A2 A3 A4 : Option Addr) (n1 c1 n2 c2 c3 n4 c4 : Nat) w => implHasFace A1 A2 A3 A4 n1 c1 n2 c2 (wF ns ls).length c3 n4 c4 f w (by have := wF_len (ns := ns) (ls := ls); omega))
  unfold BoolIs at HH
  by_cases hf : idxB (wF ns ls).length f = true
  · obtain ⟨k, rfl, hk⟩ := idx_nat hf
    have hh := (wF_row hk).1
    have HA := Lib.hid (fun v1 v2 v3 v4 B B2 w h1 h2 h3 h4 => implDualG v1 v2 v3 v4 (wF ns ls) (gA ns ls) (gN ns ls) (gL ns ls) B B2 k w h1 h2 h3 h4 (g_ok ns ls) hk (g_len ns ls).1 (g_len ns ls).2)
    rw [show cntR (gA ns ls) k (atR (wF ns ls) k) (atR (wF ns ls) k).length = dualW ns ls k from by
      unfold dualW gA
      rw [if_pos hf, if_pos hh]
      exact dual_eq hk] at HA
    unfold IntIs at HA
    rw [hf] at HH
    clear hf hk hh
    have HN := Lib.hid hn
    have HL := Lib.hid hl
    have HGL := Lib.hid (fun w h1 h2 => implGlass ns ls vn vl w h1 h2)
    unfold GlassNew at HGL
    have H0 := Lib.hid (held_pair w vn vl 32)
    obtain ⟨A, c, rfl⟩ := prs_form2 hn
    obtain ⟨A2, c2, rfl⟩ := prs_form2 hl
    clear hn hl
    generalize dualW ns ls (k : Int) = res at *
    generalize gN ns ls = ns' at *
    generalize gL ns ls = ls' at *
    generalize gA ns ls = ds at *
    generalize wF ns ls = rs at *
    generalize wholeB ns ls = ok at *
    go_enter Tryz.func48, Tryz.ntmps48
    go_wp2_with fail
    refine (HGL.out _ (HN.out.step H0.out.below) (HL.out.step H0.out.below)).mono ?_
    rintro e w1 ⟨v1, v2, v3, v4, rfl, g1, g2, g3, g4, hb⟩
    have H1 := Lib.hid (H0.out.step hb)
    have G0 := Lib.hid (heldG w1 v1 v2 v3 v4 61)
    have B1 := Lib.hid (H1.out.below.trans (G0.out.below.mono H1.out.below.size))
    have G1 := Lib.hid (g1.step G0.out.below)
    have G2 := Lib.hid (g2.step G0.out.below)
    have G3 := Lib.hid (g3.step G0.out.below)
    have G4 := Lib.hid (g4.step G0.out.below)
    obtain ⟨A5, c5, rfl⟩ := prs_form2 g1
    obtain ⟨A6, c6, rfl⟩ := prs_form2 g2
    obtain ⟨A7, c7, rfl⟩ := faces_form g3
    obtain ⟨A8, c8, rfl⟩ := ints_form g4
    clear hb g1 g2 g3 g4
    obtain ⟨x0, x1, _⟩ := H1.out.1
    obtain ⟨y0, y1, y2, y3, _⟩ := G0.out.1
    go_wp2_with fail
    refine (HH.out _ _ _ _ _ _ _ _ _ _ _ _).mono ?_
    rintro e w2 ⟨rfl, hb⟩
    have B2 := Lib.hid (B1.out.trans (hb.mono B1.out.size))
    have G5 := Lib.hid (G1.out.step hb)
    have G6 := Lib.hid (G2.out.step hb)
    have G7 := Lib.hid (G3.out.step hb)
    have G8 := Lib.hid (G4.out.step hb)
    have G9 := Lib.hid (G0.out.step hb)
    clear hb x0 x1 y0 y1 y2 y3
    obtain ⟨y0, y1, y2, y3, _⟩ := G9.out.1
    go_wp2_with fail
    refine (HA.out _ _ _ _ _ _ _ G5.out G6.out G7.out G8.out).mono ?_
    rintro e w3 ⟨rfl, hb⟩
    have B3 := Lib.hid (B2.out.trans (hb.mono B2.out.size)); clear hb
    go_wp2_with fail
    go_ret
    exact ⟨rfl, B3.out⟩
  · have hff : idxB (wF ns ls).length f = false := by simpa using hf
    have HR := Lib.hid (show dualW ns ls f = -1 from if_neg hf)
    rw [hff] at HH
    clear hf hff
    have HN := Lib.hid hn
    have HL := Lib.hid hl
    have HGL := Lib.hid (fun w h1 h2 => implGlass ns ls vn vl w h1 h2)
    unfold GlassNew at HGL
    have H0 := Lib.hid (held_pair w vn vl 32)
    obtain ⟨A, c, rfl⟩ := prs_form2 hn
    obtain ⟨A2, c2, rfl⟩ := prs_form2 hl
    clear hn hl
    generalize dualW ns ls f = res at *
    generalize gN ns ls = ns' at *
    generalize gL ns ls = ls' at *
    generalize gA ns ls = ds at *
    generalize wF ns ls = rs at *
    generalize wholeB ns ls = ok at *
    go_enter Tryz.func48, Tryz.ntmps48
    go_wp2_with fail
    refine (HGL.out _ (HN.out.step H0.out.below) (HL.out.step H0.out.below)).mono ?_
    rintro e w1 ⟨v1, v2, v3, v4, rfl, g1, g2, g3, g4, hb⟩
    have H1 := Lib.hid (H0.out.step hb)
    have G0 := Lib.hid (heldG w1 v1 v2 v3 v4 61)
    have B1 := Lib.hid (H1.out.below.trans (G0.out.below.mono H1.out.below.size))
    have G1 := Lib.hid (g1.step G0.out.below)
    have G2 := Lib.hid (g2.step G0.out.below)
    have G3 := Lib.hid (g3.step G0.out.below)
    have G4 := Lib.hid (g4.step G0.out.below)
    obtain ⟨A5, c5, rfl⟩ := prs_form2 g1
    obtain ⟨A6, c6, rfl⟩ := prs_form2 g2
    obtain ⟨A7, c7, rfl⟩ := faces_form g3
    obtain ⟨A8, c8, rfl⟩ := ints_form g4
    clear hb g1 g2 g3 g4
    obtain ⟨x0, x1, _⟩ := H1.out.1
    obtain ⟨y0, y1, y2, y3, _⟩ := G0.out.1
    go_wp2_with fail
    refine (HH.out _ _ _ _ _ _ _ _ _ _ _ _).mono ?_
    rintro e w2 ⟨rfl, hb⟩
    have B2 := Lib.hid (B1.out.trans (hb.mono B1.out.size))
    clear hb x0 x1 y0 y1 y2 y3
    go_wp2_with fail
    go_ret
    exact ⟨ret_int HR.out.symm, B2.out⟩

set_option maxRecDepth 100000 in
set_option maxHeartbeats 2000000 in
theorem specDual (ns ls : List Nd) (vn vl : Value) (f : Int) (w : World) (hn : Prs w vn ns) (hl : Prs w vl ls) :
    Calls Tryz.prog 47 #[.agg #[vn, vl], .int .i64 f] w (IntIs (dualW ns ls f) w) := by
  have HN := Lib.hid hn
  have HL := Lib.hid hl
  have H0 := Lib.hid (held_pair w vn vl 32)
  have HI1 := Lib.hid (fun w h1 h2 => specIs9 ns ls vn vl f w h1 h2)
  unfold BoolIs at HI1
  by_cases hf : idxB (wF ns ls).length f = true
  · have hh := wF_is hf
    obtain ⟨hw, hl0, h20, h12⟩ := whole_win hh
    have HSI := Lib.hid (fun w h1 h2 => specSides9 ns ls vn vl w h1 h2 hh)
    unfold IntsNew at HSI
    rw [hf] at HI1
    have hal := atW_len ns ls
    have HR := Lib.hid (show dualW ns ls f = cntS (atW ns ls) f (2 * ls.length) from if_pos hf)
    rw [← hal] at HR
    have HU := Lib.hid (cntS_succ (atW ns ls) f)
    have HP := Lib.hid (fun q => show dualP (atW ns ls) f q = (atZ (atW ns ls) (tw q) != f) from rfl)
    have HBD := Lib.hid (cntS_bd (atW ns ls) f)
    have HZ := Lib.hid (show cntS (atW ns ls) f 0 = 0 from rfl)
    have HTW := Lib.hid (fun q (h : q < (atW ns ls).length) => show tw q < (atW ns ls).length from by rw [hal] at h ⊢; exact tw_lt h)
    have hal40 : 0 < (atW ns ls).length ∧ (atW ns ls).length ≤ 40 := by omega
    obtain ⟨A, c, rfl⟩ := prs_form2 hn
    obtain ⟨A2, c2, rfl⟩ := prs_form2 hl
    clear hf hh hw hn hl hal
    generalize dualW ns ls f = res at *
    generalize hY : cntS (atW ns ls) f = Y at *
    generalize hDP : dualP (atW ns ls) f = dp at *
    clear hY hDP
    generalize atW ns ls = ds at *
    go_enter Tryz.func47, Tryz.ntmps47
    go_wp2_with fail
    refine (HI1.out _ (HN.out.step H0.out.below) (HL.out.step H0.out.below)).mono ?_
    rintro e w1 ⟨rfl, hb⟩
    have H1 := Lib.hid (H0.out.step hb); clear hb H0
    obtain ⟨x0, x1, _⟩ := H1.out.1
    go_wp2_with fail
    refine (HSI.out _ (HN.out.step H1.out.below) (HL.out.step H1.out.below)).mono ?_
    rintro e w2 ⟨v, rfl, hv, hb⟩
    have H2 := Lib.hid (H1.out.step hb); clear hb H1 x0 x1
    obtain ⟨g, cv, rfl⟩ := hv.some_ hal40.1
    have HV := Lib.hid hv; clear hv
    go_wp2_with fail
    go_loopw [6, 7] (fun v i wr => ∃ m : Nat, m ≤ ds.length ∧ i = .int .i64 m ∧ v = .int .i64 (Y m) ∧ wr = w2) (fun _ i _ => ds.length - (intOf i).toNat)
    case atStart => exact ⟨0, Nat.zero_le _, rfl, by rw [HZ.out], rfl⟩
    case round =>
      obtain ⟨m, hm, rfl, rfl, rfl⟩ := hrel
      by_cases hlt : m < ds.length
      · have p1 : (0 : Int) ≤ m := by omega
        have p2 : (m : Int) < (ds.length : Int) := by omega
        have HUM := Lib.hid (HU.out m)
        have hbd := HBD.out m
        have htw := HTW.out m hlt
        have hx : bits .xor .i64 (m : Int) 1 = (tw m : Nat) := tw_xor (by omega)
        obtain ⟨c0, -, -, -, -⟩ := HV.out.at_ (j := m) hlt
        obtain ⟨d0, -, -, -, -⟩ := HV.out.at_ (j := tw m) htw
        rw [HP.out m] at HUM
        have e1 : IntKind.i64.wrap (Y m + 1) = Y m + 1 := IntWalk.i64_in _ (by omega)
        have t1 : (0 : Int) ≤ (tw m : Nat) := by omega
        have t2 : ((tw m : Nat) : Int) < (ds.length : Int) := by omega
        generalize Y m = y at *
        generalize tw m = t at *
        generalize atZ ds m = z at *
        generalize atZ ds t = z2 at *
        by_cases hzf : z = f
        · have gz : (z == f) = true := by simp [hzf]
          rw [gz, Bool.true_and] at HUM
          clear hzf
          by_cases hz2 : z2 = f
          · have gz2 : (z2 != f) = false := by simp [hz2]
            rw [gz2, if_neg (by simp)] at HUM
            clear hz2
            go_wp2_with fail
            exact ⟨⟨m + 1, by omega, by go_num, by rw [HUM.out], trivial⟩, by simp [intOf]; omega⟩
          · have gz2 : (z2 != f) = true := by simp [hz2]
            rw [gz2, if_pos rfl] at HUM
            clear hz2
            go_wp2_with fail
            exact ⟨⟨m + 1, by omega, by go_num, by rw [HUM.out], trivial⟩, by simp [intOf]; omega⟩
        · have gz : (z == f) = false := by simp [hzf]
          rw [gz, Bool.false_and, if_neg (by simp)] at HUM
          clear hzf
          go_wp2_with fail
          exact ⟨⟨m + 1, by omega, by go_num, by rw [HUM.out], trivial⟩, by simp [intOf]; omega⟩
      · obtain rfl : m = ds.length := by omega
        go_wp2_with fail
        go_ret
        exact ⟨ret_int HR.out.symm, H2.out.below⟩
  · have HR := Lib.hid (show dualW ns ls f = -1 from if_neg hf)
    rw [show idxB (wF ns ls).length f = false by simpa using hf] at HI1
    obtain ⟨A, c, rfl⟩ := prs_form2 hn
    obtain ⟨A2, c2, rfl⟩ := prs_form2 hl
    clear hn hl hf
    generalize dualW ns ls f = res at *
    generalize wF ns ls = rs at *
    go_enter Tryz.func47, Tryz.ntmps47
    go_wp2_with fail
    refine (HI1.out _ (HN.out.step H0.out.below) (HL.out.step H0.out.below)).mono ?_
    rintro e w1 ⟨rfl, hb⟩
    have H1 := Lib.hid (H0.out.step hb); clear hb H0
    go_wp2_with fail
    go_ret
    exact ⟨ret_int HR.out.symm, H1.out.below⟩
end Go.Proofs.YtnonebfdognlmaaGreat
