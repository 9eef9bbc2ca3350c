/-
  The stains of the faces but the wall around, of the program: a map from the faces to their stains.
-/
import Derived.Test.YtepacoacalhdcaaGreatLgp
import Derived.Test.YtepacoacalhdcaaGreatG13
import Derived.Test.YtepacoacalhdcaaGreatHist
import Derived.Maps.OwnSet
namespace Go.Proofs.YtepacoacalhdcaaGreat
open Go.RowKit Go.Maps
set_option linter.unusedVariables false
set_option linter.unusedSimpArgs false

theorem FI.keep {B : Nat} {vf va : Value} {rs : List (List Int)} {ds : List Int} {W W' : World} (h : FI B vf rs va ds W) (e : ∀ k, B ≤ k → W'.heap[k]? = W.heap[k]?) : FI B vf rs va ds W' := by
  obtain ⟨⟨us, hf⟩, ha⟩ := h
  exact ⟨⟨us, hf.row.keep fun k hk => e k (hf.row.own k hk).1, hf.len, fun j hj => (hf.each j hj).keep fun k hk => e k ((hf.each j hj).own k hk).1, hf.asc⟩, ha.keep fun k hk => e k (ha.own k hk).1⟩

/-- The store of a stain at a new key, at the operation. -/
theorem wpList_putT (w : World) {ops : Array Oper} {rest : List Oper} {o : Oper} {a : Act} {Q : Exit → Act → World → Prop}
    (hg : o.guard = none) (m x v : Operand) (hop : o.op = Op.mapUpdate 142 m x v) {b n : Nat} {ks : List Nat} {us : List Value} (h : MapIs w b n ks us) {k : Nat} {u : Value} (hk : k ≤ 1000000) (hn : n ≤ 1000000) (hnew : k ∉ ks)
    (hm : a.eval m = .map (some b)) (hx : a.eval x = .int .i64 (k : Int)) (hv : a.eval v = u) (hK : ∀ w', MapIs w' b (n + 1) (ks ++ [k]) (us ++ [u]) → w.grownBy w' (some b) → wpList Tryz.prog ops Q rest (a.put o.dst undef) w') :
    wpList Tryz.prog ops Q (o :: rest) a w := by
  obtain ⟨D, h1, hl, hh, ha⟩ := h
  refine wpList_mapUpdate_own w hg m x v _ hop 3 139 mapLaw Tryz.underlying142 heldR b n D hm h1 (by unfold maxLen; omega) _ u (keyL k) hx hv (keyOf_nat hk) (.held u) [] rfl ?_
  intro w' h2 hg2
  exact hK w' (MapIs.put_ hl hh ha (isMap_owns h1) hnew h2) hg2

noncomputable def usL (ns ls : List Nd) (xs : List Tr) : List Value := (innN ns ls).map fun k => (atT xs k).val

def StfYes (ns ls : List Nd) (xs : List Tr) (vn vl : Value) (w : World) (e : Ending) (w' : World) : Prop :=
  ∃ vf va bm, e = .returned (.tuple #[.agg #[vn, vl, vf, va], .map (some bm)]) ∧ FI w.heap.size vf (wF ns ls) va (atW ns ls) w' ∧ MapIs w' bm (innN ns ls).length (innN ns ls) (usL ns ls xs) ∧ w.heap.size ≤ bm ∧ Below w.heap.size w w'

def StfNo (w : World) (e : Ending) (w' : World) : Prop := e = .returned (.tuple #[.agg #[.slice none 0 0, .slice none 0 0, .slice none 0 0, .slice none 0 0], .map none]) ∧ Below w.heap.size w w'

theorem map_far {w : World} {b n : Nat} {ks : List Nat} {us : List Value} (h : MapIs w b n ks us) (g : Nat) (hne : b ≠ g) (x y z u : Value) : MapIs ((((w.setCell ⟨g, 0, none⟩ x).setCell ⟨g, 1, none⟩ y).setCell ⟨g, 2, none⟩ z).setCell ⟨g, 3, none⟩ u) b n ks us :=
  (((h.setFar hne x).setFar hne y).setFar hne z).setFar hne u

theorem fi_far {B g : Nat} {vf va : Value} {rs : List (List Int)} {ds : List Int} {w : World} (h : FI B vf rs va ds w) (hne : g < B) (x y z u : Value) : FI B vf rs va ds ((((w.setCell ⟨g, 0, none⟩ x).setCell ⟨g, 1, none⟩ y).setCell ⟨g, 2, none⟩ z).setCell ⟨g, 3, none⟩ u) :=
  h.keep fun k hk => by
    have hn : k ≠ g := by omega
    rw [Below.heap_setCell _ _ _ _ hn, Below.heap_setCell _ _ _ _ hn, Below.heap_setCell _ _ _ _ hn, Below.heap_setCell _ _ _ _ hn]

set_option maxRecDepth 100000 in
set_option maxHeartbeats 4000000 in
theorem implStfYes (ns ls : List Nd) (xs : List Tr) (vn vl v : Value) (w : World) (hn : Prs w vn ns) (hl : Prs w vl ls) (hv : Trs w v xs) (hlb : lgtB ns ls xs = true) :
    Calls Tryz.prog 118 #[.agg #[vn, vl], v] w (StfYes ns ls xs vn vl w) := by
  obtain ⟨hh, hlen, -⟩ := lgtB_parts hlb
  have hsb : stsB xs = true := by unfold lgtB at hlb; simp only [Bool.and_eq_true] at hlb; exact hlb.2.2
  have HST := Lib.hid (fun w hv => implStains xs v w hv)
  unfold BoolIs at HST
  have HN := Lib.hid hn
  have HL := Lib.hid hl
  have HV := Lib.hid hv
  have hxl := hv.len
  have H0 := Lib.hid ((held_pair w vn vl 32).new2 (w.heap.size + 1) (by simp) [.slice none 0 0, .slice none 0 0, .slice none 0 0, .slice none 0 0] 98)
  simp only [newFs, List.cons_append, List.nil_append, List.append_nil] at H0
  have K0 := Lib.hid (Gls4.new (w.alloc (.cells #[vn, vl] 32)) (w.heap.size + 1) (by simp) 98 (.slice none 0 0) (.slice none 0 0) (.slice none 0 0) (.slice none 0 0))
  have HGY := Lib.hid (fun w h1 h2 => implGlassYes ns ls vn vl w h1 h2 hh)
  unfold GlassYes at HGY
  have hWF : wF ns ls = facesL ns ls := if_pos hh
  rw [← hWF] at HGY
  have h40 := wF_len (ns := ns) (ls := ls)
  rw [hsb] at HST
  have HIN := Lib.hid (fun v1 v2 v3 v4 B w h1 h2 h3 h4 => (show Calls Tryz.prog 75 #[.agg #[v1, v2, v3, v4]] w (IntsNew (innW ns ls) w) from
    implInner ns ls v1 v2 v3 v4 (wF ns ls) (atW ns ls) B w h1 h2 h3 h4 (wF_ok ns ls)))
  unfold IntsNew at HIN
  have HIW := Lib.hid (fun m (hm : m < (innW ns ls).length) => (show ∃ k : Nat, atZ (innW ns ls) m = (k : Int) ∧ (k < xs.length ∧ k ≤ 1000) ∧ (innN ns ls).take (m + 1) = (innN ns ls).take m ++ [k] ∧ (usL ns ls xs).take (m + 1) = (usL ns ls xs).take m ++ [(atT xs k).val] ∧ k ∉ (innN ns ls).take m from by
    have hl := innN_len ns ls
    have hmn : m < (innN ns ls).length := by omega
    have hul : (usL ns ls xs).length = (innN ns ls).length := List.length_map _
    refine ⟨(innN ns ls)[m], ?_, ?_, List.take_succ_eq_append_getElem hmn, ?_, ?_⟩
    · rw [← atZ_get hm]
      simp only [innW_is, List.getElem_map]
    · have := (innN_mem.1 (List.getElem_mem hmn)).1
      omega
    · rw [List.take_succ_eq_append_getElem (show m < (usL ns ls xs).length by omega)]
      simp only [usL, List.getElem_map]
    · intro hmem
      obtain ⟨i, hi, e⟩ := List.getElem_of_mem hmem
      rw [List.length_take] at hi
      rw [List.getElem_take] at e
      exact List.pairwise_iff_getElem.1 (innN_nodup ns ls) i m (by omega) hmn (by omega) e))
  have HIL := Lib.hid (innN_len ns ls)
  have HUL := Lib.hid (show (usL ns ls xs).length = (innN ns ls).length from List.length_map _)
  have hi12 : (innW ns ls).length ≤ 40 := innW_len ns ls
  change Calls Tryz.prog 118 #[.agg #[vn, vl], v] w (fun e w' => ∃ vf va bm, e = .returned (.tuple #[.agg #[vn, vl, vf, va], .map (some bm)]) ∧ FI w.heap.size vf (wF ns ls) va (atW ns ls) w' ∧ MapIs w' bm (innN ns ls).length (innN ns ls) (usL ns ls xs) ∧ w.heap.size ≤ bm ∧ Below w.heap.size w w')
  obtain ⟨A, c, rfl⟩ := prs_form2 hn
  obtain ⟨A2, c2, rfl⟩ := prs_form2 hl
  obtain ⟨A3, c3, rfl⟩ := hv.form2
  have e2 : ((xs.length : Int) != ((wF ns ls).length : Int)) = false := by simp [hlen]
  clear hn hl hv hWF hh hlen hlb hsb
  generalize usL ns ls xs = US at *
  generalize innN ns ls = IN at *
  generalize innW ns ls = X at *
  generalize atW ns ls = ds at *
  generalize wF ns ls = rs at *
  go_enter Tryz.func118, Tryz.ntmps118
  obtain ⟨x0, x1, x2, x3, x4, x5, _⟩ := H0.out.1
  go_wp2_with fail
  clear x0 x1 x2 x3 x4 x5
  refine (HGY.out _ (HN.out.step H0.out.below) (HL.out.step H0.out.below)).mono ?_
  rintro e w1 ⟨vf, va, rfl, hf, ha, hb⟩
  have hsz : ((w.alloc (.cells #[.slice A ns.length c, .slice A2 ls.length c2] 32)).alloc (.cells #[.slice none 0 0, .slice none 0 0, .slice none 0 0, .slice none 0 0] 98)).heap.size = w.heap.size + 1 + 1 := by simp
  rw [hsz] at hf ha
  have H1 := Lib.hid (H0.out.step hb)
  have K := Lib.hid (K0.out.step hb)
  have HFI1 := Lib.hid (FI.mk hf ha)
  obtain ⟨A7, c7, rfl⟩ := faces_form hf
  obtain ⟨A8, c8, rfl⟩ := ints_form ha
  have hs1 := H1.out.below.size
  have hs1' : w.heap.size + 1 + 1 ≤ w1.heap.size := by have := hb.size; rw [hsz] at this; exact this
  have H2 := Lib.hid (H1.out.new2 w1.heap.size rfl [.slice A ns.length c, .slice A2 ls.length c2, .slice A7 rs.length c7, .slice A8 ds.length c8] 98)
  simp only [newFs, List.cons_append, List.nil_append, List.append_nil] at H2
  have bg := below_alloc w1 (.cells #[.slice A ns.length c, .slice A2 ls.length c2, .slice A7 rs.length c7, .slice A8 ds.length c8] 98)
  have K := Lib.hid (K.out.step bg)
  have HFI := Lib.hid (HFI1.out.step bg)
  clear hb hf ha hsz HFI1 H1 K0 bg
  obtain ⟨x0, x1, x2, x3, x4, x5, x6, x7, x8, x9, _⟩ := H2.out.1
  go_wp2_with fail
  refine (HST.out _ (HV.out.step H2.out.below)).mono ?_
  rintro e w2 ⟨rfl, hb⟩
  have K := Lib.hid (K.out.step hb)
  have HFI := Lib.hid (HFI.out.step hb)
  have H2 := Lib.hid (H2.out.step hb)
  clear hb x0 x1 x2 x3 x4 x5 x6 x7 x8 x9
  obtain ⟨x0, x1, x2, x3, x4, x5, x6, x7, x8, x9, _⟩ := H2.out.1
  have hs2 : w.heap.size + 1 + 1 ≤ w2.heap.size := by have := H2.out.2.1.1; have := H2.out.below.size; omega
  have S0 := Lib.hid (Held.start H2.out.1 H2.out.2.1)
  have HM0 := Lib.hid (MapIs.made w2)
  have b2 := below_alloc w2 (.map #[] 0)
  have HNn := Lib.hid (HN.out.step (H2.out.below.trans (b2.mono H2.out.below.size)))
  have HLl := Lib.hid (HL.out.step (H2.out.below.trans (b2.mono H2.out.below.size)))
  have HFI3 := Lib.hid (HFI.out.step b2)
  have hmm := @run_makeMap Tryz.prog
  obtain ⟨z0, z1, z2, z3, z4, z5, z6, z7, z8, z9, _⟩ := H2.out.2.1
  go_wp2_with fail
  clear hmm z0 z1 z2 z3 z4 z5 z6 z7 z8 z9
  refine (HIN.out _ _ _ _ _ _ HNn.out HLl.out HFI3.out.f HFI3.out.a).mono ?_
  rintro e w3 ⟨vi, rfl, hm, hb⟩
  have hs3 : (w2.alloc (.map #[] 0)).heap.size = w2.heap.size + 1 := by simp
  rw [hs3] at hm
  have HM3 := Lib.hid (HM0.out.step hb)
  have B3 := Lib.hid (b2.trans (hb.mono b2.size))
  obtain ⟨ai, ci, rfl⟩ := ints_form hm
  have HX3 := Lib.hid hm
  have BW := Lib.hid H2.out.below
  clear hm hb hs3 HM0 x0 x1 x2 x3 x4 x5 x6 x7 x8 x9 b2 HNn HLl HFI3 H2
  go_wp2_with fail
  go_loopw [36] (fun i wr => ∃ m : Nat, m ≤ X.length ∧ i = .int .i64 m ∧ MapIs wr w2.heap.size m (IN.take m) (US.take m) ∧ Ints wr (w2.heap.size + 1) (.slice ai X.length ci) X ∧ Below w2.heap.size w2 wr) (fun i _ => X.length - (intOf i).toNat)
  case atStart => exact ⟨0, Nat.zero_le _, rfl, HM3.out, HX3.out, B3.out⟩
  case round =>
    clear HM3 HX3 B3
    obtain ⟨m, hm, rfl, hmap, hlx, hbb⟩ := hrel
    have HM := Lib.hid hmap; clear hmap
    have HX := Lib.hid hlx; clear hlx
    have BB := Lib.hid hbb; clear hbb
    have S1 := Lib.hid (S0.out.step BB.out)
    by_cases hlt : m < X.length
    · obtain ⟨gl, cl, el⟩ := HX.out.some_ (by omega)
      simp only [Value.slice.injEq] at el
      obtain ⟨rfl, -, rfl⟩ := el
      obtain ⟨t0, -, hgl0, -, -⟩ := HX.out.at_ (j := m) hlt
      obtain ⟨k, hk, ⟨hkx, hk1⟩, hin, hus, hnew⟩ := HIW.out m hlt
      rw [hk] at t0
      obtain ⟨_, _, he, _, _, hcs⟩ := (HV.out.step (BW.out.trans (BB.out.mono BW.out.size))).form
      injection he with he1 he2 he3
      obtain ⟨bs, os, hA, hbl, hc0, hc1, hc2⟩ := hcs k hkx
      rw [← he1] at hA
      subst hA
      clear he1 he2 he3 hcs hk
      have HNX := Lib.hid (And.intro hin hus); clear hin hus
      have HNW := Lib.hid hnew; clear hnew
      generalize atT xs k = t at *
      obtain ⟨x, y, z⟩ := t
      unfold Tr.val at HNX
      simp only at hc0 hc1 hc2
      have p3 : (0 : Int) ≤ m := by omega
      have p4 : (m : Int) < (X.length : Int) := by omega
      have q3 : (0 : Int) ≤ k := by omega
      have q4 : (k : Int) < (xs.length : Int) := by omega
      go_wp2_with (at_mapUpdate; refine wpList_putT _ rfl _ _ _ rfl HM.out (k := k) (by omega) (by omega) HNW.out rfl rfl rfl ?_; intro w4 hmap hg4)
      have HM4 := Lib.hid (show MapIs w4 w2.heap.size (m + 1) (IN.take (m + 1)) (US.take (m + 1)) from by rw [HNX.out.1, HNX.out.2]; exact hmap)
      have HX4 := Lib.hid (HX.out.grown hg4 (fun p hp e => by have := (HX.out.own p hp).1; injection e with e; omega))
      have B4 := Lib.hid (show Below w2.heap.size w2 w4 from BB.out.trans ⟨hg4.os, hg4.tape, hg4.output, hg4.size, fun p hp => hg4.block p (Nat.lt_of_lt_of_le hp BB.out.size) (fun e => by injection e with e; omega)⟩)
      go_wp2_with fail
      exact ⟨⟨m + 1, by omega, by go_num, HM4.out, HX4.out, B4.out⟩, by simp [intOf]; omega⟩
    · obtain rfl : m = X.length := by omega
      have KE0 := Lib.hid (K.out.step BB.out)
      have HF0 := Lib.hid (HFI.out.step BB.out)
      obtain ⟨x0, x1, x2, x3, x4, x5, x6, x7, x8, x9, _⟩ := S1.out.1
      have f0 := KE0.out.frozen 0
      have f1 := KE0.out.frozen 1
      have f2 := KE0.out.frozen 2
      have f3 := KE0.out.frozen 3
      have HMN := Lib.hid (show MapIs wr w2.heap.size IN.length IN US from by
        have h := HM.out
        rw [← HIL.out, List.take_length, ← HUL.out, List.take_length, HUL.out] at h
        exact h)
      go_wp2_with fail
      obtain ⟨r0, r1, r2, r3⟩ := (KE0.out.setAll (.slice A ns.length c) (.slice A2 ls.length c2) (.slice A7 rs.length c7) (.slice A8 ds.length c8)).cells
      refine bodyPost_ret (v := .tuple #[.agg #[.slice A ns.length c, .slice A2 ls.length c2, .slice A7 rs.length c7, .slice A8 ds.length c8], .map (some w2.heap.size)]) (by simp [results, Tryz.results118, go_sem, r0, r1, r2, r3]) rfl ⟨_, _, w2.heap.size, rfl, ?_, ?_, by omega, below_set4 (BW.out.trans (BB.out.mono BW.out.size)) (Nat.le_succ _)⟩
      · have hff := fi_far HF0.out (show w.heap.size + 1 < w.heap.size + 1 + 1 by omega) (.slice A ns.length c) (.slice A2 ls.length c2) (.slice A7 rs.length c7) (.slice A8 ds.length c8)
        exact ⟨hff.f.mono (by omega), hff.a.mono (by omega)⟩
      · exact map_far HMN.out (w.heap.size + 1) (by omega) _ _ _ _
end Go.Proofs.YtepacoacalhdcaaGreat
