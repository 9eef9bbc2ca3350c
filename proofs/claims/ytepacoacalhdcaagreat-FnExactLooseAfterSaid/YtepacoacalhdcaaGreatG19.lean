/-
  Several texts in one: a claim has at most 60 files.
-/
import Derived.Test.YtepacoacalhdcaaGreatChnS
import Derived.Test.YtepacoacalhdcaaGreatG35
import Derived.Test.YtepacoacalhdcaaGreatG36
import Derived.Test.YtepacoacalhdcaaGreatG3
import Derived.Conc.SmallLaws
import Derived.Conc.EventLaws
import Derived.Test.YtepacoacalhdcaaGreatG6

namespace Go.Proofs.YtepacoacalhdcaaGreat
open Go.RowKit Go.Conc
set_option linter.unusedVariables false
set_option linter.unusedSimpArgs false

/-- The channel b holds T. -/
def CQ (W : World) (b cap : Nat) (T : List Int) (cl : Bool) : Prop := ∃ s r, W.heap[b]? = some (.chan cap (T.map fun x => Value.int .i64 x).toArray cl s r false)

section

variable {W W' : World} {b cap B : Nat} {T : List Int} {cl : Bool}

theorem CQ.lt (h : CQ W b cap T cl) : b < W.heap.size := by
  obtain ⟨s, r, h⟩ := h
  exact (Array.getElem?_eq_some_iff.1 h).1

theorem CQ.step (h : CQ W b cap T cl) (hb : Below W.heap.size W W') : CQ W' b cap T cl := by
  obtain ⟨s, r, h1⟩ := h
  exact ⟨s, r, (hb.block b (Array.getElem?_eq_some_iff.1 h1).1).trans h1⟩

theorem CQ.put (h : CQ W b cap T cl) {g j : Nat} (hne : b ≠ g) (x : Value) : CQ (W.setCell ⟨g, j, none⟩ x) b cap T cl := by
  obtain ⟨s, r, h1⟩ := h
  exact ⟨s, r, (Below.heap_setCell _ _ _ _ hne).trans h1⟩

theorem CQ.far (h : CQ W b cap T cl) {v : Value} {xs : List Int} (hi : Ints W B v xs) {p : Nat} (e : v.ownBlock = some p) : p ≠ b := by
  rintro rfl
  obtain ⟨s, r, h1⟩ := h
  obtain ⟨cur, hc⟩ := hi.typed e
  rw [h1] at hc
  cases hc

theorem CQ.grown {row : Option Nat} (h : CQ W b cap T cl) (hg : W.grownBy W' row) (hr : row ≠ some b) : CQ W' b cap T cl := by
  obtain ⟨s, r, h1⟩ := h
  exact ⟨s, r, (hg.block b (Array.getElem?_eq_some_iff.1 h1).1 fun e => hr e.symm).trans h1⟩

end

theorem wpS_rest {P : Program} {ops : Array Oper} {Q : Exit → Act → World → Prop} {a : Act} {w : World} (n : Nat) (h : wpList P ops Q (ops.toList.drop n) a w) : wpS P ops Q (List.range' n (ops.toList.drop n).length) a w :=
  wpS_list _ n (fun j => by simp [List.getElem?_drop]) h

theorem sort_flt {S : List Int} {p : Nat → Bool} {n : Nat} (h : S.Perm (fltN p n)) : (S.mergeSort fun x y => decide (x ≤ y)) = fltN p n := by
  have hp := List.mergeSort_perm S (fun x y => decide (x ≤ y))
  have hs : (S.mergeSort (fun x y => decide (x ≤ y))).Pairwise (fun a b => a ≤ b) := by
    have := List.pairwise_mergeSort (le := fun x y : Int => decide (x ≤ y)) (by simp; omega) (by simp; omega) S
    simpa using this
  exact List.Perm.eq_of_pairwise (le := fun a b => a ≤ b) (fun a b _ _ h1 h2 => by omega) hs ((fltN_asc _ _).imp fun h => by omega) (hp.trans h)

theorem fold_pre {P : Int → Bool} : ∀ (row T : List Int), ∃ S, row.foldl (addQ P) T = T ++ S
  | [], T => ⟨[], by simp⟩
  | x :: row, T => by
    obtain ⟨S, h⟩ := fold_pre (P := P) row (addQ P T x)
    by_cases e : (P x && !T.contains x) = true
    · refine ⟨[x] ++ S, ?_⟩
      show row.foldl (addQ P) (addQ P T x) = _
      rw [h]; unfold addQ; rw [if_pos e]; simp
    · refine ⟨S, ?_⟩
      show row.foldl (addQ P) (addQ P T x) = _
      rw [h]; unfold addQ; rw [if_neg e]

def lenOf : Value → Nat
  | .slice _ n _ => n
  | _ => 0

theorem ext_one {α : Type} (x : α) (L : List α) : ((x :: L).toArray.extract 1 (x :: L).toArray.size) = L.toArray := by
  apply Array.toList_inj.1
  simp [List.extract_eq_take_drop]

theorem Turn.setChan {c cap s r : Nat} {buf : Array Value} {cl tm : Bool} (W : World) : Turn c (c + 1) W (W.setChan c cap buf cl s r tm) :=
  ⟨rfl, rfl, rfl, by rw [size_setChan]; exact Nat.le_refl _, fun i hi h => by simp only [World.setChan]; rw [Array.getElem?_setIfInBounds_ne (by omega)]⟩

theorem rowIs_setChan {W : World} {c cap s r b n : Nat} {buf : Array Value} {cl tm : Bool} {T : TypeId} {f : Nat → Value} (h : W.rowIs b T n f) (hne : b ≠ c) : (W.setChan c cap buf cl s r tm).rowIs b T n f :=
  h.of_block (by simp only [World.setChan]; rw [Array.getElem?_setIfInBounds_ne (by omega)])

set_option maxRecDepth 100000 in
set_option maxHeartbeats 1000000 in
theorem implChain (v1 v2 v3 v4 vx : Value) (rs : List (List Int)) (ds xs : List Int) (ns ls : List Nd) (B B2 f : Nat) (c : Int) (w : World) (hn : Prs w v1 ns) (hl : Prs w v2 ls) (hfc : Faces w B v3 rs) (ha : Ints w B2 v4 ds) (hv : Seq w vx xs) (hk : ds.length = 2 * ls.length) (hd : ls.length ≤ 20) (hN : rs.length ≤ 13) (hxl : xs.length = rs.length) (hf : f < rs.length) :
    Calls Tryz.prog 191 #[.agg #[v1, v2, v3, v4], vx, .int .i64 f, .int .i64 c] w (IntsNew (chnL (besM ds ls.length) (chnP xs f c) rs.length f) w) := by
  have HBS := Lib.hid (fun (k : Nat) W hb => implBesG v1 v2 v3 v4 rs ds ns ls B B2 k W (hn.step hb) (hl.step hb) (hfc.step hb) (ha.step hb) hk hd (by omega))
  have HBS := Lib.hid (fun (k : Nat) W (hb : Below w.heap.size w W) => (show Calls Tryz.prog 126 #[.agg #[v1, v2, v3, v4], .int .i64 k] W (IntsNew (rowM (besM ds ls.length) rs.length k) W) from by rw [← besR]; exact HBS.out k W hb))
  unfold IntsNew at HBS
  have HV := Lib.hid hv
  obtain ⟨A, c1, rfl⟩ := prs_form2 hn
  obtain ⟨A2, c2, rfl⟩ := prs_form2 hl
  obtain ⟨A3, c3, rfl⟩ := faces_form hfc
  obtain ⟨A4, c4, rfl⟩ := ints_form ha
  obtain ⟨A5, c5, rfl⟩ := seq_form2 hv
  clear hn hl hfc ha hv hk
  generalize besM ds ls.length = M at *
  have HXL := Lib.hid hxl; clear hxl
  generalize rs.length = N at *
  obtain ⟨bx, ox, rfl, hbx, hcx⟩ := seq_at HV.out f (by rw [HXL.out]; exact hf)
  have HXC := Lib.hid (fun W (hb : Below w.heap.size w W) i (hi : i < N) => (hb.cell (p := ⟨bx, ox + i, none⟩) hbx).trans (hcx i (by rw [HXL.out]; exact hi)))
  clear hbx hcx HV
  have hmk : ∀ W : World, (Instr.makeSlice 146 (.int .i64 (N : Int)) (.int .i64 (N : Int))).run Tryz.prog W = .ok (.slice (some ⟨W.heap.size, 0, none⟩) N N) (W.alloc (.cells (madeCells #[.bool false] N) 4)) :=
    run_make_row' 146 4 (.bool false) 1 Tryz.underlying146 infoBool rfl .i64 .i64 N (by omega) (by omega)
  have hmc : ∀ W : World, (Instr.makeChan 171 (.int .i64 (N : Int))).run Tryz.prog W = .ok (.chan (some W.heap.size)) (W.alloc (.chan N #[] false 0 0 false)) := by
    intro W
    obtain ⟨i0, hi, hz0, hz1, hz2⟩ := info_parts infoInt
    exact run_makeChan (t := 171) (e := 3) (i := i0) Tryz.underlying171 hi .i64 N (by omega) (by rw [hz2]; omega)
  have p1 : (0 : Int) ≤ (f : Int) := by omega
  have p2 : (f : Int) < (N : Int) := by omega
  have H0 := Lib.hid (heldG w (.slice A ns.length c1) (.slice A2 ls.length c2) (.slice A3 N c3) (.slice A4 ds.length c4) 98)
  have hr := World.rowIs_made (((w.alloc (.cells #[.slice A ns.length c1, .slice A2 ls.length c2, .slice A3 N c3, .slice A4 ds.length c4] 98)).alloc (.cells #[] 3)).alloc (.chan N #[] false 0 0 false)) (.bool false) N 4
  have HR0 := Lib.hid (show World.rowIs _ (w.heap.size + 1 + 1 + 1) 4 N _ from by simpa using hr)
  clear hr
  have b0 := HR0.out.frozen f
  have b1 := HR0.out.cell hf
  go_enter Tryz.func191, Tryz.ntmps191
  obtain ⟨x0, x1, x2, x3, _⟩ := H0.out.1
  refine wp_seq ?_
  go_hide hQ0
  go_wp2_with fail
  subst hQ0
  simp only [Exit.then]
  refine wp_seq ?_
  go_hide hQ0
  go_wp2_with fail
  subst hQ0
  simp only [Exit.then]
  refine wp_seq ?_
  go_hide hQ0
  go_wp2_with fail
  subst hQ0
  simp only [Exit.then]
  refine wp_seq ?_
  go_hide hQ0
  go_wp2_with fail
  subst hQ0
  simp only [Exit.then]
  refine wp_seq ?_
  go_hide hQ0
  go_wp2_with fail
  subst hQ0
  simp only [Exit.then]
  refine wp_seq ?_
  go_hide hQ0
  refine wp_region_S ?_
  have hch : ((((w.alloc (.cells #[.slice A ns.length c1, .slice A2 ls.length c2, .slice A3 N c3, .slice A4 ds.length c4] 98)).alloc (.cells #[] 3)).alloc (.chan N #[] false 0 0 false)).alloc (.cells ((madeCells #[.bool false] N).setIfInBounds f (.bool true)) 4)).heap[w.heap.size + 1 + 1]? = some (.chan N #[] false 0 0 false) := by
    have h1 := heap_alloc_new ((w.alloc (.cells #[.slice A ns.length c1, .slice A2 ls.length c2, .slice A3 N c3, .slice A4 ds.length c4] 98)).alloc (.cells #[] 3)) (.chan N #[] false 0 0 false)
    have h2 := (below_alloc (((w.alloc (.cells #[.slice A ns.length c1, .slice A2 ls.length c2, .slice A3 N c3, .slice A4 ds.length c4] 98)).alloc (.cells #[] 3)).alloc (.chan N #[] false 0 0 false)) (.cells ((madeCells #[.bool false] N).setIfInBounds f (.bool true)) 4)).block (w.heap.size + 1 + 1) (by simp)
    rw [h2]
    simpa using h1
  have HL1 := Lib.hid (((Ints.made (w.alloc (.cells #[.slice A ns.length c1, .slice A2 ls.length c2, .slice A3 N c3, .slice A4 ds.length c4] 98)) (w.heap.size + 1) (w.heap.size + 1) (by simp) (Nat.le_refl _)).step (below_alloc _ (.chan N #[] false 0 0 false))).step (below_alloc _ (.cells ((madeCells #[.bool false] N).setIfInBounds f (.bool true)) 4)))
  have H3 := Lib.hid (((H0.out.alloc (.cells #[] 3)).alloc (.chan N #[] false 0 0 false)).alloc (.cells ((madeCells #[.bool false] N).setIfInBounds f (.bool true)) 4))
  have hr0 := (World.rowIs_made (((w.alloc (.cells #[.slice A ns.length c1, .slice A2 ls.length c2, .slice A3 N c3, .slice A4 ds.length c4] 98)).alloc (.cells #[] 3)).alloc (.chan N #[] false 0 0 false)) (.bool false) N 4).set f (.bool true)
  rw [World.setCell_alloc_new] at hr0
  have HR3 := Lib.hid (show World.rowIs _ (w.heap.size + 1 + 1 + 1) 4 N _ from by simpa using hr0)
  clear hr0
  generalize hWx : (((w.alloc (.cells #[.slice A ns.length c1, .slice A2 ls.length c2, .slice A3 N c3, .slice A4 ds.length c4] 98)).alloc (.cells #[] 3)).alloc (.chan N #[] false 0 0 false)).alloc (.cells ((madeCells #[.bool false] N).setIfInBounds f (.bool true)) 4) = Wx at *
  have hsx : Wx.heap.size = w.heap.size + 1 + 1 + 1 + 1 := by rw [← hWx]; simp
  clear hWx
  show wpS _ _ _ [0, 1, 2] _ _
  refine wpS_value (by rfl) (by rfl) (v := .chan (some (w.heap.size + 1 + 1))) (by rfl) ?_
  refine wpS_value (by rfl) (by rfl) (v := .int .i64 f) (by rfl) ?_
  refine wpS_send (by rfl) (by rfl) (c := w.heap.size + 1 + 1) (v := .int .i64 f) (z := .tuple #[]) (by rfl) hch (by simp; omega) ?_
  refine wpS_list [] 3 (fun j => by simp) ?_
  refine wpList_nil ?_
  subst hQ0
  simp only [ Exit.then, Act.put, List.getElem_toArray, List.getElem_cons_zero, List.getElem_cons_succ, List.setIfInBounds_toArray, List.set_cons_zero, List.set_cons_succ]
  refine wp_seq ?_
  go_hide hQ0
  go_wp2_with fail
  subst hQ0
  simp only [Exit.then]
  refine wp_seq ?_
  go_hide hQ9
  refine wp_seq ?_
  go_hide hQ0
  go_wp2_with fail
  subst hQ0
  simp only [Exit.then]
  have HT := Lib.hid (Turn.setChan (c := w.heap.size + 1 + 1) (cap := N) (buf := #[].push (.int .i64 f)) (cl := false) (s := 0 + 1) (r := 0) (tm := false) Wx)
  have H5 := Lib.hid (H3.out.turn HT.out ⟨.inl (by omega), .inl (by omega), .inl (by omega), .inl (by omega), trivial⟩ (by omega))
  have HL5 := Lib.hid (HL1.out.turn HT.out (fun k e => .inl (by simp [Value.ownBlock] at e; omega)))
  have HR5 := Lib.hid (rowIs_setChan (c := w.heap.size + 1 + 1) (cap := N) (buf := #[].push (.int .i64 f)) (cl := false) (s := 0 + 1) (r := 0) (tm := false) HR3.out (by omega))
  have HC5 := Lib.hid (show CQ (Wx.setChan (w.heap.size + 1 + 1) N (#[].push (.int .i64 f)) false (0 + 1) 0 false) (w.heap.size + 1 + 1) N [(f : Int)] false from ⟨0 + 1, 0, by have := heap_setChan Wx (w.heap.size + 1 + 1) N (#[].push (.int .i64 f)) false (0 + 1) 0 false (by omega); simpa using this⟩)
  generalize Wx.setChan (w.heap.size + 1 + 1) N (#[].push (.int .i64 f)) false (0 + 1) 0 false = W5 at *
  clear HT H3 HL1 HR3 hch hsx hmk hmc x0 x1 x2 x3 H0 HR0 b0 b1
  have HP := Lib.hid (fun (i : Nat) => (show chnP xs f c (i : Int) = (decide (atZ xs i = c) || decide (atZ xs i = atZ xs f)) from by unfold chnP; simp))
  generalize chnP xs f c = P at *
  have HQN := Lib.hid (fun k => qL_nat M P hf k)
  have HQX := Lib.hid (fun k h => qL_next (M := M) (P := P) (N := N) (f := f) (k := k) h)
  have HQE := Lib.hid (fun k h => qL_end (M := M) (P := P) (k := k) hf h)
  have HQ0 := Lib.hid (show qL M P N f 0 = [(f : Int)] from rfl)
  have HSO := Lib.hid (show ((qL M P N f N).mergeSort fun x y => decide (x ≤ y)) = chnL M P N f from sort_flt (chn_sorted (M := M) (P := P) hf))
  have HQF := Lib.hid (fun k => (qL_first M P N f k).1)
  have HPRE := Lib.hid (fun k (h : k < (qL M P N f k).length) => (show (qL M P N f k).take (k + 1) = (qL M P N f (k + 1)).take (k + 1) from by
    rw [qL_next h]
    obtain ⟨S, e⟩ := fold_pre (P := P) (rowM M N (atZ (qL M P N f k) k).toNat) (qL M P N f k)
    rw [e, List.take_append_of_le_length (by omega)]))
  generalize chnL M P N f = CH at *
  generalize qL M P N f = Q at *
  go_wp2_with fail
  go_loopw [9, 12] (fun u vl wr => ∃ k : Nat, k ≤ (Q k).length ∧ vl = .int .i64 (((Q k).length - k : Nat) : Int) ∧ Ints wr (w.heap.size + 1) u ((Q k).take k) ∧ wr.rowIs (w.heap.size + 1 + 1 + 1) 4 N (fun q => .bool ((Q k).contains (q : Int))) ∧ CQ wr (w.heap.size + 1 + 1) N ((Q k).drop k) (decide (k = (Q k).length)) ∧ Held w wr [(w.heap.size, 0, .slice A ns.length c1), (w.heap.size, 1, .slice A2 ls.length c2), (w.heap.size, 2, .slice A3 N c3), (w.heap.size, 3, .slice A4 ds.length c4)]) (fun u _ _ => 20 - lenOf u)
  case atStart =>
    refine ⟨0, Nat.zero_le _, by rw [HQ0.out]; rfl, HL5.out, HR5.out.congr (fun q _ => ?_), ?_, H5.out⟩
    · rw [HQ0.out]
      by_cases e : q = f
      · subst e; simp
      · have : ([(f : Int)].contains (q : Int)) = false := by simp; omega
        rw [this]; simp [e]
    · rw [HQ0.out]; exact HC5.out
  case round =>
    clear H5 HL5 HR5 HC5
    obtain ⟨k, hk, rfl, hown, hrow, hcq, hh⟩ := hrel
    have HO := Lib.hid hown; clear hown
    have HB := Lib.hid hrow; clear hrow
    have HC := Lib.hid hcq; clear hcq
    have H1 := Lib.hid hh; clear hh
    have HNk := Lib.hid (HQN.out k)
    by_cases hke : k = (Q k).length
    · have hce := HC.out
      rw [decide_eq_true hke, List.drop_of_length_le (by omega)] at hce
      obtain ⟨s, r, hce⟩ := hce
      refine wp_seq ?_
      go_hide hQ1
      refine wp_region_S ?_
      show wpS _ _ _ [0, 1] _ _
      refine wpS_shut true (by rfl) (by rfl) (c := w.heap.size + 1 + 1) (z := .int .i64 0) (by rfl) hce ?_
      simp only [Act.put, List.getElem_toArray, List.getElem_cons_zero, List.getElem_cons_succ, List.setIfInBounds_toArray, List.set_cons_zero, List.set_cons_succ, got, if_true]
      refine wpS_rest 1 ?_
      simp only [List.drop_succ_cons, List.drop_zero]
      go_wp2_with fail
      subst hQ1
      simp only [Exit.then]
      go_wp2_with fail
      subst hQ9
      simp only [Exit.then]
      have h9 : Ints wr (w.heap.size + 1) u9 (Q k) := by
        have := HO.out
        rwa [List.take_of_length_le (by omega)] at this
      obtain ⟨g9, c9, rfl⟩ := h9.some_ (HQF.out k)
      have hnl := HNk.out.len
      have hszz : w.heap.size + 1 ≤ wr.heap.size := by have := (h9.own g9 rfl); omega
      have HSRT := Lib.hid (sortInts h9 hszz (by omega))
      have hqe := HQE.out k hke.symm
      rw [← hqe, HSO.out, hqe] at HSRT
      have HW1 := Lib.hid H1.out.below
      clear h9 hnl hqe hce hke hk HC HB HO
      go_wp2_with fail
      refine HSRT.out.mono ?_
      rintro e w4 ⟨rfl, hs4, hb4⟩
      go_wp2_with fail
      go_ret
      refine ⟨_, rfl, ?_, HW1.out.trans (hb4.mono (by omega))⟩
      exact hs4.mono (Nat.le_succ _)
    · have hlt : k < (Q k).length := by omega
      obtain ⟨h, hh, hhN⟩ := HNk.out.at_ hlt
      have hce := HC.out
      have hdrop : (Q k).drop k = (h : Int) :: (Q k).drop (k + 1) := by rw [List.drop_eq_getElem_cons hlt, atZ_get hlt, hh]
      rw [decide_eq_false hke, hdrop] at hce
      obtain ⟨s, r, hce⟩ := hce
      have HT1 := Lib.hid (Turn.setChan (c := w.heap.size + 1 + 1) (cap := N) (buf := (((Q k).drop (k + 1)).map fun x => Value.int .i64 x).toArray) (cl := false) (s := s) (r := r + 1) (tm := false) wr)
      have hcl := HC.out.lt
      have H2 := Lib.hid (H1.out.turn HT1.out ⟨.inl (by omega), .inl (by omega), .inl (by omega), .inl (by omega), trivial⟩ (by omega))
      have HO2 := Lib.hid (HO.out.turn HT1.out (fun p e => by have := HC.out.far HO.out e; omega))
      have HB2 := Lib.hid (rowIs_setChan (c := w.heap.size + 1 + 1) (cap := N) (buf := (((Q k).drop (k + 1)).map fun x => Value.int .i64 x).toArray) (cl := false) (s := s) (r := r + 1) (tm := false) HB.out (by omega))
      have HC2 := Lib.hid (show CQ (wr.setChan (w.heap.size + 1 + 1) N (((Q k).drop (k + 1)).map fun x => Value.int .i64 x).toArray false s (r + 1) false) (w.heap.size + 1 + 1) N ((Q k).drop (k + 1)) false from ⟨s, r + 1, heap_setChan wr _ _ _ _ _ _ _ hcl⟩)
      refine wp_seq ?_
      go_hide hQ1
      refine wp_region_S ?_
      show wpS _ _ _ [0, 1] _ _
      refine wpS_recv true (by rfl) (by rfl) (c := w.heap.size + 1 + 1) (z := .int .i64 0) (by rfl) hce (by simp) ?_
      have hex : ((((h : Int) :: (Q k).drop (k + 1)).map fun x => Value.int .i64 x).toArray.extract 1 (((h : Int) :: (Q k).drop (k + 1)).map fun x => Value.int .i64 x).toArray.size) = (((Q k).drop (k + 1)).map fun x => Value.int .i64 x).toArray := ext_one _ _
      have hgd : ((((h : Int) :: (Q k).drop (k + 1)).map fun x => Value.int .i64 x).toArray.getD 0 undef) = .int .i64 h := by simp
      rw [hex, hgd]
      generalize wr.setChan (w.heap.size + 1 + 1) N (((Q k).drop (k + 1)).map fun x => Value.int .i64 x).toArray false s (r + 1) false = W2 at *
      clear hex hgd hce hdrop HT1 H1 HO HB HC hcl
      simp only [Act.put, List.getElem_toArray, List.getElem_cons_zero, List.getElem_cons_succ, List.setIfInBounds_toArray, List.set_cons_zero, List.set_cons_succ, got, if_true]
      refine wpS_rest 1 ?_
      simp only [List.drop_succ_cons, List.drop_zero]
      go_wp2_with fail
      subst hQ1
      simp only [Exit.then]
      have hsz : w.heap.size + 1 ≤ W2.heap.size := by have := H2.out.2.1.1; omega
      have hnl := HNk.out.len
      have htl : ((Q k).take k).length ≤ 13 := by simp; omega
      have htk : (Q k).take k ++ [(h : Int)] = (Q k).take (k + 1) := by rw [List.take_succ_eq_append_getElem hlt, atZ_get hlt, hh]
      have HTLL := Lib.hid (show ((Q k).take k).length = k from by simp; omega)
      have HT2L := Lib.hid (show ((Q k).take (k + 1)).length = k + 1 from by simp; omega)
      have HPK := Lib.hid (HPRE.out k hlt)
      generalize (Q k).take k = TL at *
      have HTK := Lib.hid htk
      obtain ⟨au, cu, rfl, -⟩ := HO2.out.form
      obtain ⟨i0, hi, hz0, hz1, hz2⟩ := info_parts infoInt
      clear htk hk
      go_wp2_with (at_builtin; refine wpList_append_own _ rfl _ _ 27 rfl (w.heap.size + 1) 3 i0 (.int .i64 0) 1 8 Tryz.underlying27 hi hz0 hz1 hz2 rfl (by decide) _ _ _ rfl (World.ownsRow.alloc HO2.out _) ⟨_, 0, none⟩ 1 1 [.int .i64 h] rfl rfl ?c1 ?c2 ?c3 ?c4 ?c5 ?_)
      try (case c1 => exact cell_one_new _ _ _)
      case c2 => simp [Value.oneCell']
      case c3 => unfold maxLen; omega
      case c4 => omega
      case c5 => first | omega | (simp <;> omega)
      intro v' w5 hown hgrow _
      have HO3 := Lib.hid (show Ints w5 (w.heap.size + 1) v' ((Q k).take (k + 1)) from by rw [← HTK.out]; exact Ints.more hown)
      have HB3 := Lib.hid (rowIs_grown (rowIs_step HB2.out (below_alloc W2 (.cells #[.int .i64 h] 3))) hgrow (fun e => (HO2.out.farB HB2.out e) rfl))
      have HC3 := Lib.hid ((HC2.out.step (below_alloc W2 (.cells #[.int .i64 h] 3))).grown hgrow (fun e => HC2.out.far HO2.out e rfl))
      have H3 := Lib.hid (H2.out.stepB (B := w.heap.size + 1) ⟨by omega, by omega, by omega, by omega, trivial⟩ (grown_below HO2.out hsz hgrow) (by omega))
      clear hown hgrow hi hz0 hz1 hz2 HO2 HB2 HC2 H2 hsz hnl htl
      obtain ⟨x0, x1, x2, x3, _⟩ := H3.out.1
      go_wp2_with fail
      refine (HBS.out h _ H3.out.below).mono ?_
      rintro e w6 ⟨vR, rfl, hR, hb⟩
      have HR6 := Lib.hid (hR.mono (b' := 0) (Nat.zero_le _))
      have HO6 := Lib.hid (HO3.out.step hb)
      have HB6 := Lib.hid (rowIs_step HB3.out hb)
      have HC6 := Lib.hid (HC3.out.step hb)
      have H6 := Lib.hid (H3.out.step hb)
      obtain ⟨aR, cR, rfl, -⟩ := hR.form
      clear hR hb x0 x1 x2 x3 HO3 HB3 HC3 H3
      go_wp2_with fail
      have HRN := Lib.hid (fun j (hj : j < (rowM M N h).length) => (show ∃ q : Nat, atZ (rowM M N h) j = q ∧ q < N from rowM_nat _ (by rw [← atZ_get hj]; exact List.getElem_mem hj)))
      have HRL := Lib.hid (show (rowM M N h).length ≤ N from fltN_len _ _)
      have HFS := Lib.hid (fun j (hj : j < (rowM M N h).length) => fold_take (P := P) (T := Q k) hj)
      have HFZ := Lib.hid (show ((rowM M N h).take 0).foldl (addQ P) (Q k) = Q k from rfl)
      have HFE := Lib.hid (show ((rowM M N h).take (rowM M N h).length).foldl (addQ P) (Q k) = Q (k + 1) from by rw [List.take_length, HQX.out k hlt, hh]; rfl)
      have HFN := Lib.hid (fun j => NatL.fold (P := P) ((rowM M N h).take j) HNk.out (fun x hx => rowM_nat x (List.mem_of_mem_take hx)))
      have HAY := Lib.hid (fun T x h1 h2 => addQ_yes (P := P) (T := T) (x := x) h1 h2)
      have HAN := Lib.hid (fun T x h1 => addQ_not (P := P) (T := T) (x := x) h1)
      have HAH := Lib.hid (fun T x h1 => addQ_has (P := P) (T := T) (x := x) h1)
      generalize hF : (fun j => ((rowM M N h).take j).foldl (addQ P) (Q k)) = F at *
      have HFD := Lib.hid (fun j => (show ((rowM M N h).take j).foldl (addQ P) (Q k) = F j from by rw [← hF])); clear hF
      have HF1 := Lib.hid (fun j (hj : j < (rowM M N h).length) => (show F (j + 1) = addQ P (F j) (atZ (rowM M N h) j) from by rw [← HFD.out, ← HFD.out]; exact HFS.out j hj))
      have HF0 := Lib.hid (show F 0 = Q k from by rw [← HFD.out]; rfl)
      have HFL := Lib.hid (show F (rowM M N h).length = Q (k + 1) from by rw [← HFD.out]; exact HFE.out)
      have HFT := Lib.hid (fun j => (show NatL N (F j) from by rw [← HFD.out]; exact HFN.out j))
      clear HFS HFZ HFE HFN HFD
      generalize rowM M N h = R at *
      generalize addQ P = AQ at *
      have hkl := hlt
      have hlf : (Q k).length = (F 0).length := by rw [HF0.out]
      go_loopw [12, 42] (fun vl vj wr => ∃ j : Nat, j ≤ R.length ∧ vj = .int .i64 j ∧ vl = .int .i64 (((F j).length - k : Nat) : Int) ∧ k < (F j).length ∧ Ints wr (w.heap.size + 1) v' ((Q k).take (k + 1)) ∧ Ints wr 0 (.slice aR R.length cR) R ∧ wr.rowIs (w.heap.size + 1 + 1 + 1) 4 N (fun q => .bool ((F j).contains (q : Int))) ∧ CQ wr (w.heap.size + 1 + 1) N ((F j).drop (k + 1)) false ∧ Held w wr [(w.heap.size, 0, .slice A ns.length c1), (w.heap.size, 1, .slice A2 ls.length c2), (w.heap.size, 2, .slice A3 N c3), (w.heap.size, 3, .slice A4 ds.length c4)]) (fun _ vj _ => R.length - (intOf vj).toNat)
      case atStart => exact ⟨0, Nat.zero_le _, rfl, by rw [HF0.out], by rw [HF0.out]; exact hlt, HO6.out, HR6.out, by rw [HF0.out]; exact HB6.out, by rw [HF0.out]; exact HC6.out, H6.out⟩
      case round =>
        clear HO6 HR6 HB6 HC6 H6 hlf
        obtain ⟨j, hj, rfl, rfl, hkF, hown, hR, hrow, hcq, hheld⟩ := hrel
        have HO := Lib.hid hown; clear hown
        have HR := Lib.hid hR; clear hR
        have HB := Lib.hid hrow; clear hrow
        have HC := Lib.hid hcq; clear hcq
        have H1 := Lib.hid hheld; clear hheld
        have hFl := (HFT.out j).len
        by_cases hjR : j < R.length
        · obtain ⟨q, hq, hqN⟩ := HRN.out j hjR
          have q1 : (j : Int) < (R.length : Int) := by omega
          have q0 : (0 : Int) ≤ j := by omega
          have q3 : (q : Int) < (N : Int) := by omega
          have q4 : (0 : Int) ≤ q := by omega
          have q8 : (q : Int) < (xs.length : Int) := by rw [HXL.out]; omega
          have q9 : (f : Int) < (xs.length : Int) := by rw [HXL.out]; omega
          obtain ⟨gR, cR', hvR⟩ := HR.out.some_ (by omega)
          simp only [Value.slice.injEq] at hvR
          obtain ⟨rfl, -, rfl⟩ := hvR
          obtain ⟨t0, -, t1, -, -⟩ := HR.out.at_ hjR
          rw [hq] at t0
          have b1 := HB.out.cell hqN
          have b0 := HB.out.frozen q
          have cc1 := HXC.out wr H1.out.below q hqN
          have cc2 := HXC.out wr H1.out.below f hf
          have HPi := Lib.hid (HP.out q)
          have hf1 := HF1.out j hjR
          rw [hq] at hf1
          have HFJ := Lib.hid hf1
          have HAYj := Lib.hid (HAY.out (F j) (q : Int))
          have HANj := Lib.hid (HAN.out (F j) (q : Int))
          have HAHj := Lib.hid (HAH.out (F j) (q : Int))
          clear hf1 hq
          have hj13 : j ≤ 13 := by have := HRL.out; omega
          generalize P (q : Int) = pq at *
          generalize hsq : (F j).contains (q : Int) = sq at *
          generalize atZ xs q = x at *
          generalize atZ xs f = y at *
          cases sq
          · by_cases hxy : x = y
            · have HPI := Lib.hid (show pq = true from by rw [HPi.out]; simp [hxy])
              subst hxy
              clear HPi
              have E1 := Lib.hid (show F (j + 1) = F j ++ [(q : Int)] from by rw [HFJ.out]; exact HAYj.out HPI.out (by first | rfl | trivial))
              go_wp2_with fail
              go_quiet (fail)
              simp only [Exit.then]
              apply_assumption
              refine wp_cond_true (by rfl) ?_
              refine wp_seq ?_
              go_hide hQ3
              go_wp2_with fail
              subst hQ3
              simp only [Exit.then]
              refine wp_seq ?_
              go_hide hQ3
              have HD := Lib.hid (below_drewN (Below.refl wr.heap.size wr) nq)
              have HB3 := Lib.hid (rowIs_step HB.out HD.out)
              have HB4 := Lib.hid (HB3.out.set q (.bool true))
              have HO4 := Lib.hid ((HO.out.step HD.out).setFarB (j := q) (x := .bool true) HB3.out)
              have HR4 := Lib.hid ((HR.out.step HD.out).setFarB (j := q) (x := .bool true) HB3.out)
              have HC4 := Lib.hid ((HC.out.step HD.out).put (g := w.heap.size + 1 + 1 + 1) (j := q) (by omega) (.bool true))
              have H4 := Lib.hid ((H1.out.step HD.out).setN (g := w.heap.size + 1 + 1 + 1) (o := q) (x := .bool true) ⟨by omega, by omega, by omega, by omega, trivial⟩ (by omega))
              generalize (wr.drewN nq).setCell ⟨w.heap.size + 1 + 1 + 1, q, none⟩ (.bool true) = W3 at *
              have hcl := HC4.out.lt
              obtain ⟨s3, r3, hce⟩ := HC4.out
              have hroom : ((((F j).drop (k + 1)).map fun x => Value.int .i64 x).toArray).size < N := by simp; omega
              have HT1 := Lib.hid (Turn.setChan (c := w.heap.size + 1 + 1) (cap := N) (buf := ((((F j).drop (k + 1)).map fun x => Value.int .i64 x).toArray).push (.int .i64 q)) (cl := false) (s := s3 + 1) (r := r3) (tm := false) W3)
              have H5 := Lib.hid (H4.out.turn HT1.out ⟨.inl (by omega), .inl (by omega), .inl (by omega), .inl (by omega), trivial⟩ (by omega))
              have HO5 := Lib.hid (HO4.out.turn HT1.out (fun p e => by have := HC4.out.far HO4.out e; omega))
              have HR5 := Lib.hid (HR4.out.turn HT1.out (fun p e => by have := HC4.out.far HR4.out e; omega))
              have HB5 := Lib.hid (rowIs_setChan (c := w.heap.size + 1 + 1) (cap := N) (buf := ((((F j).drop (k + 1)).map fun x => Value.int .i64 x).toArray).push (.int .i64 q)) (cl := false) (s := s3 + 1) (r := r3) (tm := false) HB4.out (by omega))
              have HC5 := Lib.hid (show CQ (W3.setChan (w.heap.size + 1 + 1) N (((((F j).drop (k + 1)).map fun x => Value.int .i64 x).toArray).push (.int .i64 q)) false (s3 + 1) r3 false) (w.heap.size + 1 + 1) N ((F (j + 1)).drop (k + 1)) false from ⟨s3 + 1, r3, by
                rw [heap_setChan W3 _ _ _ _ _ _ _ hcl, E1.out, List.drop_append_of_le_length (by omega)]
                simp⟩)
              refine wp_region_S ?_
              show wpS _ _ _ [0, 1, 2] _ _
              refine wpS_value (by rfl) (by rfl) (v := .chan (some (w.heap.size + 1 + 1))) (by rfl) ?_
              refine wpS_value (by rfl) (by rfl) (v := .int .i64 q) (by rfl) ?_
              refine wpS_send (by rfl) (by rfl) (c := w.heap.size + 1 + 1) (v := .int .i64 q) (z := .tuple #[]) (by rfl) hce hroom ?_
              generalize W3.setChan (w.heap.size + 1 + 1) N (((((F j).drop (k + 1)).map fun x => Value.int .i64 x).toArray).push (.int .i64 q)) false (s3 + 1) r3 false = W4 at *
              have hll : (F (j + 1)).length - k = ((F j).length - k) + 1 := by rw [E1.out]; simp; omega
              have hl2 : k < (F (j + 1)).length := by rw [E1.out]; simp; omega
              have HLL := Lib.hid (And.intro hll hl2)
              clear hll hl2 hce hroom HT1 hcl HD
              simp only [Act.put, List.getElem_toArray, List.getElem_cons_zero, List.getElem_cons_succ, List.setIfInBounds_toArray, List.set_cons_zero, List.set_cons_succ]
              refine wpS_rest 3 ?_
              simp only [List.drop_succ_cons, List.drop_zero]
              refine wpList_nil ?_
              subst hQ3
              simp only [Exit.then]
              go_wp2_with fail
              exact ⟨⟨j + 1, by omega, by go_num, by rw [HLL.out.1]; go_num, HLL.out.2, HO5.out, HR5.out, by
                refine HB5.out.congr fun q' hq' => ?_
                rw [E1.out, contains_snoc]
                by_cases e : q' = q
                · subst e; simp
                · rw [if_neg e]
                  have : ((q' : Int) == (q : Int)) = false := by rw [beq_eq_false_iff_ne]; omega
                  rw [this, Bool.or_false], HC5.out, H5.out⟩, by simp [intOf]; omega⟩
            · have e1 : (x == y) = false := by rw [beq_eq_false_iff_ne]; exact hxy
              have e2 : decide (x = y) = false := by simp [hxy]
              by_cases hxc : x = c
              · have HPI := Lib.hid (show pq = true from by rw [HPi.out]; simp [hxc])
                subst hxc
                clear HPi hxy
                have E1 := Lib.hid (show F (j + 1) = F j ++ [(q : Int)] from by rw [HFJ.out]; exact HAYj.out HPI.out (by first | rfl | trivial))
                go_wp2_with fail
                go_quiet (fail)
                simp only [Exit.then]
                apply_assumption
                refine wp_cond_true (by rfl) ?_
                refine wp_seq ?_
                go_hide hQ3
                go_wp2_with fail
                subst hQ3
                simp only [Exit.then]
                refine wp_seq ?_
                go_hide hQ3
                have HD := Lib.hid (below_drewN (Below.refl wr.heap.size wr) nq)
                have HB3 := Lib.hid (rowIs_step HB.out HD.out)
                have HB4 := Lib.hid (HB3.out.set q (.bool true))
                have HO4 := Lib.hid ((HO.out.step HD.out).setFarB (j := q) (x := .bool true) HB3.out)
                have HR4 := Lib.hid ((HR.out.step HD.out).setFarB (j := q) (x := .bool true) HB3.out)
                have HC4 := Lib.hid ((HC.out.step HD.out).put (g := w.heap.size + 1 + 1 + 1) (j := q) (by omega) (.bool true))
                have H4 := Lib.hid ((H1.out.step HD.out).setN (g := w.heap.size + 1 + 1 + 1) (o := q) (x := .bool true) ⟨by omega, by omega, by omega, by omega, trivial⟩ (by omega))
                generalize (wr.drewN nq).setCell ⟨w.heap.size + 1 + 1 + 1, q, none⟩ (.bool true) = W3 at *
                have hcl := HC4.out.lt
                obtain ⟨s3, r3, hce⟩ := HC4.out
                have hroom : ((((F j).drop (k + 1)).map fun x => Value.int .i64 x).toArray).size < N := by simp; omega
                have HT1 := Lib.hid (Turn.setChan (c := w.heap.size + 1 + 1) (cap := N) (buf := ((((F j).drop (k + 1)).map fun x => Value.int .i64 x).toArray).push (.int .i64 q)) (cl := false) (s := s3 + 1) (r := r3) (tm := false) W3)
                have H5 := Lib.hid (H4.out.turn HT1.out ⟨.inl (by omega), .inl (by omega), .inl (by omega), .inl (by omega), trivial⟩ (by omega))
                have HO5 := Lib.hid (HO4.out.turn HT1.out (fun p e => by have := HC4.out.far HO4.out e; omega))
                have HR5 := Lib.hid (HR4.out.turn HT1.out (fun p e => by have := HC4.out.far HR4.out e; omega))
                have HB5 := Lib.hid (rowIs_setChan (c := w.heap.size + 1 + 1) (cap := N) (buf := ((((F j).drop (k + 1)).map fun x => Value.int .i64 x).toArray).push (.int .i64 q)) (cl := false) (s := s3 + 1) (r := r3) (tm := false) HB4.out (by omega))
                have HC5 := Lib.hid (show CQ (W3.setChan (w.heap.size + 1 + 1) N (((((F j).drop (k + 1)).map fun x => Value.int .i64 x).toArray).push (.int .i64 q)) false (s3 + 1) r3 false) (w.heap.size + 1 + 1) N ((F (j + 1)).drop (k + 1)) false from ⟨s3 + 1, r3, by
                  rw [heap_setChan W3 _ _ _ _ _ _ _ hcl, E1.out, List.drop_append_of_le_length (by omega)]
                  simp⟩)
                refine wp_region_S ?_
                show wpS _ _ _ [0, 1, 2] _ _
                refine wpS_value (by rfl) (by rfl) (v := .chan (some (w.heap.size + 1 + 1))) (by rfl) ?_
                refine wpS_value (by rfl) (by rfl) (v := .int .i64 q) (by rfl) ?_
                refine wpS_send (by rfl) (by rfl) (c := w.heap.size + 1 + 1) (v := .int .i64 q) (z := .tuple #[]) (by rfl) hce hroom ?_
                generalize W3.setChan (w.heap.size + 1 + 1) N (((((F j).drop (k + 1)).map fun x => Value.int .i64 x).toArray).push (.int .i64 q)) false (s3 + 1) r3 false = W4 at *
                have hll : (F (j + 1)).length - k = ((F j).length - k) + 1 := by rw [E1.out]; simp; omega
                have hl2 : k < (F (j + 1)).length := by rw [E1.out]; simp; omega
                have HLL := Lib.hid (And.intro hll hl2)
                clear hll hl2 hce hroom HT1 hcl HD
                simp only [Act.put, List.getElem_toArray, List.getElem_cons_zero, List.getElem_cons_succ, List.setIfInBounds_toArray, List.set_cons_zero, List.set_cons_succ]
                refine wpS_rest 3 ?_
                simp only [List.drop_succ_cons, List.drop_zero]
                refine wpList_nil ?_
                subst hQ3
                simp only [Exit.then]
                go_wp2_with fail
                exact ⟨⟨j + 1, by omega, by go_num, by rw [HLL.out.1]; go_num, HLL.out.2, HO5.out, HR5.out, by
                  refine HB5.out.congr fun q' hq' => ?_
                  rw [E1.out, contains_snoc]
                  by_cases e : q' = q
                  · subst e; simp
                  · rw [if_neg e]
                    have : ((q' : Int) == (q : Int)) = false := by rw [beq_eq_false_iff_ne]; omega
                    rw [this, Bool.or_false], HC5.out, H5.out⟩, by simp [intOf]; omega⟩
              · have e3 : (x == c) = false := by rw [beq_eq_false_iff_ne]; exact hxc
                have e4 : decide (x = c) = false := by simp [hxc]
                have E1 := Lib.hid (show F (j + 1) = F j from by rw [HFJ.out]; exact HANj.out (by rw [HPi.out, e2, e4]; rfl))
                clear hxc hxy HPi
                go_wp2_with fail
                go_quiet (fail)
                go_wp2_with fail
                exact ⟨⟨j + 1, by omega, by go_num, by rw [E1.out], by rw [E1.out]; omega, HO.out.step (below_drewN (Below.refl _ _) nq), HR.out.step (below_drewN (Below.refl _ _) nq), by rw [E1.out]; exact rowIs_step HB.out (below_drewN (Below.refl _ _) nq), by rw [E1.out]; exact HC.out.step (below_drewN (Below.refl _ _) nq), H1.out.step (below_drewN (Below.refl _ _) nq)⟩, by simp [intOf]; omega⟩
          · have E1 := Lib.hid (show F (j + 1) = F j from by rw [HFJ.out]; exact HAHj.out (by first | rfl | trivial))
            go_wp2_with fail
            go_quiet (fail)
            go_wp2_with fail
            exact ⟨⟨j + 1, by omega, by go_num, by rw [E1.out], by rw [E1.out]; omega, HO.out.step (below_drewN (Below.refl _ _) nq), HR.out.step (below_drewN (Below.refl _ _) nq), by rw [E1.out]; exact rowIs_step HB.out (below_drewN (Below.refl _ _) nq), by rw [E1.out]; exact HC.out.step (below_drewN (Below.refl _ _) nq), H1.out.step (below_drewN (Below.refl _ _) nq)⟩, by simp [intOf]; omega⟩
        · obtain rfl : j = R.length := by omega
          rw [HFL.out] at hkF hFl HB HC ⊢
          have q1 : ¬ (R.length : Int) < (R.length : Int) := by omega
          have hk13 : (Q (k + 1)).length ≤ 13 := by omega
          have HCC := Lib.hid HC.out
          by_cases hend : (Q (k + 1)).length = k + 1
          · obtain ⟨s, r, hce⟩ := HCC.out
            have hclose : ∀ ats ty, (Builtin.close_ ats ty #[.chan (some (w.heap.size + 1 + 1))]).run Tryz.prog wr = .ok (.tuple #[]) (wr.setChan (w.heap.size + 1 + 1) N (((Q (k + 1)).drop (k + 1)).map fun x => Value.int .i64 x).toArray true s r false) := fun ats ty => run_close_open ats ty hce
            have HT1 := Lib.hid (Turn.setChan (c := w.heap.size + 1 + 1) (cap := N) (buf := (((Q (k + 1)).drop (k + 1)).map fun x => Value.int .i64 x).toArray) (cl := true) (s := s) (r := r) (tm := false) wr)
            have hcl := HC.out.lt
            have H2 := Lib.hid (H1.out.turn HT1.out ⟨.inl (by omega), .inl (by omega), .inl (by omega), .inl (by omega), trivial⟩ (by omega))
            have HO2 := Lib.hid (HO.out.turn HT1.out (fun p e => by have := HC.out.far HO.out e; omega))
            have HB2 := Lib.hid (rowIs_setChan (c := w.heap.size + 1 + 1) (cap := N) (buf := (((Q (k + 1)).drop (k + 1)).map fun x => Value.int .i64 x).toArray) (cl := true) (s := s) (r := r) (tm := false) HB.out (by omega))
            have HC2 := Lib.hid (show CQ (wr.setChan (w.heap.size + 1 + 1) N (((Q (k + 1)).drop (k + 1)).map fun x => Value.int .i64 x).toArray true s r false) (w.heap.size + 1 + 1) N ((Q (k + 1)).drop (k + 1)) (decide (k + 1 = (Q (k + 1)).length)) from by rw [decide_eq_true hend.symm]; exact ⟨s, r, heap_setChan wr _ _ _ _ _ _ _ hcl⟩)
            generalize wr.setChan (w.heap.size + 1 + 1) N (((Q (k + 1)).drop (k + 1)).map fun x => Value.int .i64 x).toArray true s r false = W2 at *
            have hle := Nat.le_of_eq hend.symm
            have HEND := Lib.hid hend
            rw [hend]
            rw [show k + 1 - k = 1 by omega]
            clear hend hce HT1 hcl
            go_wp2_with fail
            exact ⟨⟨k + 1, by omega, by rw [HEND.out, show k + 1 - (k + 1) = 0 by omega]; rfl, by rw [← HPK.out]; exact HO2.out, HB2.out, HC2.out, H2.out⟩, by
              obtain ⟨av, cv, e, -⟩ := HO.out.form
              rw [e]
              show 20 - ((Q k).take (k + 1)).length < 20 - TL.length
              rw [HT2L.out, HTLL.out]; omega⟩
          · have HDN := Lib.hid (show decide (k + 1 = (Q (k + 1)).length) = false from decide_eq_false (fun e => hend e.symm))
            have hgt : k + 1 < (Q (k + 1)).length := by omega
            obtain ⟨m, hm⟩ : ∃ m : Nat, (Q (k + 1)).length - k = m + 2 := ⟨(Q (k + 1)).length - k - 2, by omega⟩
            have hm13 : m ≤ 13 := by omega
            have hsub : (Q (k + 1)).length - (k + 1) = m + 1 := by omega
            have HM := Lib.hid (And.intro hm hsub)
            rw [hm]
            clear hend hm hsub
            go_wp2_with fail
            exact ⟨⟨k + 1, by omega, by rw [HM.out.2]; go_num, by rw [← HPK.out]; exact HO.out, HB.out, by rw [HDN.out]; exact HC.out, H1.out⟩, by
              obtain ⟨av, cv, e, -⟩ := HO.out.form
              rw [e]
              show 20 - ((Q k).take (k + 1)).length < 20 - TL.length
              rw [HT2L.out, HTLL.out]; omega⟩
end Go.Proofs.YtepacoacalhdcaaGreat

namespace Go.Proofs.YtepacoacalhdcaaGreat
open Go.RowKit
set_option linter.unusedVariables false
set_option linter.unusedSimpArgs false

theorem gA_whole2 {ns ls : List Nd} (h : wholeB ns ls = true) : gA ns ls = atW ns ls ∧ gL ns ls = ls := by
  unfold gA gL
  rw [if_pos h, if_pos h]
  exact ⟨rfl, rfl⟩

/-- Whether a chain may be asked for, and its faces. -/
noncomputable def coB (ns ls : List Nd) (xs : List Int) (f c : Int) : Bool := properB ns ls xs && (idxB xs.length f && inB c 0 5)

noncomputable def coL (ns ls : List Nd) (xs : List Int) (f c : Int) : List Int := if coB ns ls xs f c = true then chnL (besM (atW ns ls) ls.length) (chnP xs f.toNat c) (wF ns ls).length f.toNat else []

theorem coL_no {ns ls : List Nd} {xs : List Int} {f c : Int} (h : coB ns ls xs f c = false) : coL ns ls xs f c = [] := if_neg (by rw [h]; simp)

theorem coL_yes {ns ls : List Nd} {xs : List Int} {f c : Int} (q : Nat) (hq : f = q) (h : coB ns ls xs f c = true) : coL ns ls xs f c = chnL (besM (atW ns ls) ls.length) (chnP xs q c) (wF ns ls).length q := by unfold coL; rw [if_pos h, hq]; rfl

theorem co_list {ns ls : List Nd} {xs : List Int} (h : properB ns ls xs = true) : wholeB ns ls = true ∧ xs.length = (wF ns ls).length := by
  unfold properB at h
  simp [Bool.and_eq_true] at h
  exact ⟨(listB_parts h.1).1, (listB_parts h.1).2.1⟩

theorem coL_len (ns ls : List Nd) (xs : List Int) (f c : Int) : (coL ns ls xs f c).length ≤ 20 := by
  unfold coL
  split
  · unfold chnL
    have := fltN_len (fun i => (qL (besM (atW ns ls) ls.length) (chnP xs f.toNat c) (wF ns ls).length f.toNat (wF ns ls).length).contains (i : Int)) (wF ns ls).length
    have := wF_thirteen ns ls; omega
  · simp

theorem co_is {ns ls : List Nd} {xs : List Int} {f c : Int} : coB ns ls xs f c = (properB ns ls xs && (idxB xs.length f && inB c 0 5)) := rfl

end Go.Proofs.YtepacoacalhdcaaGreat
