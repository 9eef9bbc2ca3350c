/-
  Trees of leads, of the program: groups of nodes in a map.
-/
import Derived.Test.YtmcbbjobjogkmaaGreatUfI
import Derived.Test.YtmcbbjobjogkmaaGreatUfS
import Derived.Test.YtmcbbjobjogkmaaGreatGlsI
import Derived.Test.YtmcbbjobjogkmaaGreatImplLead
namespace Go.Proofs.YtmcbbjobjogkmaaGreat
open Go.RowKit Go.Maps
set_option linter.unusedVariables false
set_option linter.unusedSimpArgs false

theorem ret_bool2 {a b : Bool} (h : a = b) : (Ending.returned (.bool a)) = .returned (.bool b) := by rw [h]

set_option maxRecDepth 100000 in
set_option maxHeartbeats 8000000 in
theorem implJoinN (J : List (Nd × Nd)) (b : Nat) (p q : Nd) (w : World) (hm : UfMap 75 Nd.val w b J) (hok : JOk J) (hfl : FiledJ 75 Nd.val J) (hp : ∃ l, keyOf Tryz.prog 75 p.val = some l) (hq : ∃ l, keyOf Tryz.prog 75 q.val = some l) (hlen : J.length ≤ 1000000) :
    Calls Tryz.prog 60 #[.map (some b), p.val, q.val] w (fun e w' => e = .returned (.bool (!decide (hdJ J p = hdJ J q))) ∧ UfMap 75 Nd.val w' b (addJ J p q) ∧ Turn b (b + 1) w w') := by
  have HM := Lib.hid hm; clear hm
  have HP := Lib.hid (fun W (h : Below w.heap.size w W) => implHeadN J b p W (HM.out.step h) hok hfl hp)
  have HQ := Lib.hid (fun W (h : Below w.heap.size w W) => implHeadN J b q W (HM.out.step h) hok hfl hq)
  obtain ⟨lt, hlt⟩ := FiledJ.head hfl hq
  have HKT := Lib.hid hlt; clear hlt hok hfl hp hq
  have HEQ := Lib.hid (fun (h : hdJ J p = hdJ J q) => (show addJ J p q = J from if_pos h))
  have HNE := Lib.hid (fun (h : ¬ hdJ J p = hdJ J q) => (show addJ J p q = (hdJ J q, hdJ J p) :: J from if_neg h))
  have HSM := Lib.hid (fun (h : hdJ J p = hdJ J q) => (show (!decide (hdJ J p = hdJ J q)) = false from by simp [h]))
  have HDF := Lib.hid (fun (h : ¬ hdJ J p = hdJ J q) => (show (!decide (hdJ J p = hdJ J q)) = true from by simp [h]))
  generalize (!decide (hdJ J p = hdJ J q)) = res at *
  generalize addJ J p q = J2 at *
  generalize hdJ J p = hp at *
  generalize hdJ J q = hq at *
  obtain ⟨hx, hy⟩ := hp
  obtain ⟨tx, ty⟩ := hq
  obtain ⟨px, py⟩ := p
  obtain ⟨qx, qy⟩ := q
  unfold Nd.val at HP HQ
  simp only at HP HQ
  unfold Nd.val
  have H0 := Lib.hid ((Held.none_ w).new2 w.heap.size rfl [.int .i64 px, .int .i64 py] 75)
  have H1 := Lib.hid (H0.out.new2 (w.heap.size + 1) (by simp) [.int .i64 qx, .int .i64 qy] 75)
  simp only [newFs, List.cons_append, List.nil_append, List.append_nil] at H1
  clear H0
  go_enter Tryz.func60, Tryz.ntmps60
  obtain ⟨x0, x1, x2, x3, _⟩ := H1.out.1
  go_wp2_with fail
  have HBH2 := Lib.hid H1.out.2.1
  refine regionW (fun W => Held _ W [(w.heap.size + 1, 0, .int .i64 (qx)), (w.heap.size + 1, 1, .int .i64 (qy)), (w.heap.size, 0, .int .i64 (px)), (w.heap.size, 1, .int .i64 (py))]) (by kernel_rfl) (Held.start H1.out.1 H1.out.2.1).drew ?_
  refine takeW (i := 0) (v := ?_) (Stable.held _ _) rfl (by kernel_rfl) (by kernel_rfl) (by kernel_rfl) (fun _ _ _ h => h) ?_ ?_
  rotate_left
  · first | (refine Or.inl ⟨by rfl, fun W hS => detR_value (w' := W) ?_ (Below.refl _ _)⟩; obtain ⟨x0, x1, x2, x3, _⟩ := hS.1; go_simp; first | done | with_reducible rfl) | fail
  simp only [Act.put, List.setIfInBounds_toArray, List.set_cons_zero, List.set_cons_succ]
  refine takeW (i := 1) (v := ?_) (Stable.held _ _) rfl (by kernel_rfl) (by kernel_rfl) (by kernel_rfl) (fun _ _ _ h => h) ?_ ?_
  rotate_left
  · first | (refine Or.inl ⟨by rfl, fun W hS => detR_value (w' := W) ?_ (Below.refl _ _)⟩; obtain ⟨x0, x1, x2, x3, _⟩ := hS.1; go_simp; first | done | with_reducible rfl) | fail
  simp only [Act.put, List.setIfInBounds_toArray, List.set_cons_zero, List.set_cons_succ]
  refine takeW (i := 2) (v := ?_) (Stable.held _ _) rfl (by kernel_rfl) (by kernel_rfl) (by kernel_rfl) (fun _ _ _ h => h) ?_ ?_
  rotate_left
  · first | (refine Or.inl ⟨by rfl, fun W hS => ?_⟩; have hH := H1.out.after hS; refine detR_call (w' := W) (f := ?_) (args := ?_) ?_ ?_; rotate_left 2; (go_simp; (refine ⟨?_, ?_⟩ <;> with_reducible rfl)); (first | (with_reducible refine (HP.out _ hH.below).mono ?_) | (with_reducible refine (HQ.out _ hH.below).mono ?_) | fail); (first | (rintro e wn ⟨rfl, hb⟩; refine ⟨?_, hb⟩; with_reducible rfl) | (rintro e wn ⟨rfl, rfl⟩; refine ⟨?_, Below.refl _ _⟩; with_reducible rfl) | fail)) | fail
  simp only [Act.put, List.setIfInBounds_toArray, List.set_cons_zero, List.set_cons_succ]
  refine takeW (i := 3) (v := ?_) (Stable.held _ _) rfl (by kernel_rfl) (by kernel_rfl) (by kernel_rfl) (fun _ _ _ h => h) ?_ ?_
  rotate_left
  · first | (refine Or.inl ⟨by rfl, fun W hS => detR_value (w' := W) ?_ (Below.refl _ _)⟩; obtain ⟨x0, x1, x2, x3, _⟩ := hS.1; go_simp; first | done | with_reducible rfl) | fail
  simp only [Act.put, List.setIfInBounds_toArray, List.set_cons_zero, List.set_cons_succ]
  refine takeW (i := 4) (v := ?_) (Stable.held _ _) rfl (by kernel_rfl) (by kernel_rfl) (by kernel_rfl) (fun _ _ _ h => h) ?_ ?_
  rotate_left
  · first | (refine Or.inl ⟨by rfl, fun W hS => detR_value (w' := W) ?_ (Below.refl _ _)⟩; obtain ⟨x0, x1, x2, x3, _⟩ := hS.1; go_simp; first | done | with_reducible rfl) | fail
  simp only [Act.put, List.setIfInBounds_toArray, List.set_cons_zero, List.set_cons_succ]
  refine takeW (i := 5) (v := ?_) (Stable.held _ _) rfl (by kernel_rfl) (by kernel_rfl) (by kernel_rfl) (fun _ _ _ h => h) ?_ ?_
  rotate_left
  · first | (refine Or.inl ⟨by rfl, fun W hS => ?_⟩; have hH := H1.out.after hS; refine detR_call (w' := W) (f := ?_) (args := ?_) ?_ ?_; rotate_left 2; (go_simp; (refine ⟨?_, ?_⟩ <;> with_reducible rfl)); (first | (with_reducible refine (HP.out _ hH.below).mono ?_) | (with_reducible refine (HQ.out _ hH.below).mono ?_) | fail); (first | (rintro e wn ⟨rfl, hb⟩; refine ⟨?_, hb⟩; with_reducible rfl) | (rintro e wn ⟨rfl, rfl⟩; refine ⟨?_, Below.refl _ _⟩; with_reducible rfl) | fail)) | fail
  simp only [Act.put, List.setIfInBounds_toArray, List.set_cons_zero, List.set_cons_succ]
  refine freeOr (i := 6) (j := 7) (by kernel_rfl) ?_ ?_
  · refine freeOp (i := 6) (NewB _ 75 2) (Stable.held _ _) (fun v => stable_newB _ _ _ v) rfl (by rfl) (fun W hS => freeR_new (T := 75) (n := 2) (cs := #[.int .i64 0, .int .i64 0]) (by go_simp; first | done | with_reducible rfl) hS.2.2.size rfl) (fun vf hex => ?_)
    clear hex
    simp only [Act.put, List.setIfInBounds_toArray, List.set_cons_zero, List.set_cons_succ]
    refine freeW (i := 7) (fun v => Two _ 75 (Sz 2) (Sz 2) vf v) (Stable.and (Stable.held _ _) (stable_newB _ _ _ _)) (fun v => stable_two _ _ _ _ _ _) rfl (by kernel_rfl) (by rfl) (fun W hS => freeR_after (T := 75) (n := 2) (cs := #[.int .i64 0, .int .i64 0]) (by go_simp; first | done | with_reducible rfl) hS.1.2.2.size rfl hS.2) (fun vs => ?_)
    simp only [Act.put, List.setIfInBounds_toArray, List.set_cons_zero, List.set_cons_succ]
    refine storeA (i := 8) #[.int .i64 hx, .int .i64 hy] (.inl rfl) rfl (by kernel_rfl) (by rfl) rfl (by rfl) (by rfl) HBH2.out rfl (by kernel_rfl) (by simp [Value.oneCell']) ?_
    simp only [Act.put, List.setIfInBounds_toArray, List.set_cons_zero, List.set_cons_succ]
    refine storeB (i := 9) #[.int .i64 tx, .int .i64 ty] (.inl rfl) rfl (by kernel_rfl) (by rfl) rfl (by rfl) (by rfl) HBH2.out rfl rfl (by kernel_rfl) (by simp [Value.oneCell']) ?_
    simp only [Act.put, List.setIfInBounds_toArray, List.set_cons_zero, List.set_cons_succ]
    refine doneW (by kernel_rfl) fun wH2 HG => ?_
    obtain ⟨⟨⟨⟨hH, _⟩, _⟩, _⟩, ht⟩ := HG
    have BWH2 := Lib.hid hH.2.2
    obtain ⟨b1H2, b2H2, rfl, rfl, hj⟩ := Held.joined2 H1.out hH ht
    have H2 := Lib.hid hj; clear hj hH ht HBH2
    try clear x0 x1 x2 x3
    obtain ⟨x0, x1, x2, x3, x4, x5, x6, x7, _⟩ := H2.out.1
    have HK := Lib.hid H2.out.below
    have HM2 := Lib.hid (HM.out.step H2.out.below)
    clear BWH2
    by_cases hxe : hx = tx
    · subst hxe
      by_cases hye : hy = ty
      · subst hye
        have HA := Lib.hid (HEQ.out rfl)
        have HB := Lib.hid (HSM.out rfl)
        go_wp2_with fail
        go_ret
        exact ⟨ret_bool (by rw [HB.out]), by rw [HA.out]; exact HM2.out, Turn.of_below H2.out.below⟩
      · have e1 : (hy == ty) = false := by rw [beq_eq_false_iff_ne]; exact hye
        have e2 : decide (hy = ty) = false := by simp [hye]
        have HA := Lib.hid (HNE.out (by intro e; injection e with _ e; exact hye e))
        have HB := Lib.hid (HDF.out (by intro e; injection e with _ e; exact hye e))
        clear hye
        go_wp2_with (at_mapUpdate; refine wpList_join (t := ⟨hx, ty⟩) (c := ⟨hx, hy⟩) rfl _ _ _ rfl HM2.out keyIsNd hlen HKT.out rfl rfl rfl ?_; intro w4 hmap hg4)
        go_ret
        exact ⟨ret_bool (by rw [HB.out]), by rw [HA.out]; exact hmap, (Turn.of_below H2.out.below).trans (Turn.of_grown hg4 fun g e => by injection e with e; omega)⟩
    · have e1 : (hx == tx) = false := by rw [beq_eq_false_iff_ne]; exact hxe
      have e2 : decide (hx = tx) = false := by simp [hxe]
      have HA := Lib.hid (HNE.out (by intro e; injection e with e _; exact hxe e))
      have HB := Lib.hid (HDF.out (by intro e; injection e with e _; exact hxe e))
      clear hxe
      go_wp2_with (at_mapUpdate; refine wpList_join (t := ⟨tx, ty⟩) (c := ⟨hx, hy⟩) rfl _ _ _ rfl HM2.out keyIsNd hlen HKT.out rfl rfl rfl ?_; intro w4 hmap hg4)
      go_ret
      exact ⟨ret_bool (by rw [HB.out]), by rw [HA.out]; exact hmap, (Turn.of_below H2.out.below).trans (Turn.of_grown hg4 fun g e => by injection e with e; omega)⟩
  · refine freeOp (i := 7) (NewB _ 75 2) (Stable.held _ _) (fun v => stable_newB _ _ _ v) rfl (by rfl) (fun W hS => freeR_new (T := 75) (n := 2) (cs := #[.int .i64 0, .int .i64 0]) (by go_simp; first | done | with_reducible rfl) hS.2.2.size rfl) (fun vf hex => ?_)
    clear hex
    simp only [Act.put, List.setIfInBounds_toArray, List.set_cons_zero, List.set_cons_succ]
    refine freeW (i := 6) (fun v => Two _ 75 (Sz 2) (Sz 2) v vf) (Stable.and (Stable.held _ _) (stable_newB _ _ _ _)) (fun v => stable_two _ _ _ _ _ _) rfl (by kernel_rfl) (by rfl) (fun W hS => freeR_before (T := 75) (n := 2) (cs := #[.int .i64 0, .int .i64 0]) (by go_simp; first | done | with_reducible rfl) hS.1.2.2.size rfl hS.2) (fun vs => ?_)
    simp only [Act.put, List.setIfInBounds_toArray, List.set_cons_zero, List.set_cons_succ]
    refine storeA (i := 8) #[.int .i64 hx, .int .i64 hy] (.inr rfl) rfl (by kernel_rfl) (by rfl) rfl (by rfl) (by rfl) HBH2.out rfl (by kernel_rfl) (by simp [Value.oneCell']) ?_
    simp only [Act.put, List.setIfInBounds_toArray, List.set_cons_zero, List.set_cons_succ]
    refine storeB (i := 9) #[.int .i64 tx, .int .i64 ty] (.inr rfl) rfl (by kernel_rfl) (by rfl) rfl (by rfl) (by rfl) HBH2.out rfl rfl (by kernel_rfl) (by simp [Value.oneCell']) ?_
    simp only [Act.put, List.setIfInBounds_toArray, List.set_cons_zero, List.set_cons_succ]
    refine doneW (by kernel_rfl) fun wH2 HG => ?_
    obtain ⟨⟨⟨⟨hH, _⟩, _⟩, _⟩, ht⟩ := HG
    have BWH2 := Lib.hid hH.2.2
    obtain ⟨b1H2, b2H2, rfl, rfl, hj⟩ := Held.joined2 H1.out hH ht
    have H2 := Lib.hid hj; clear hj hH ht HBH2
    try clear x0 x1 x2 x3
    obtain ⟨x0, x1, x2, x3, x4, x5, x6, x7, _⟩ := H2.out.1
    have HK := Lib.hid H2.out.below
    have HM2 := Lib.hid (HM.out.step H2.out.below)
    clear BWH2
    by_cases hxe : hx = tx
    · subst hxe
      by_cases hye : hy = ty
      · subst hye
        have HA := Lib.hid (HEQ.out rfl)
        have HB := Lib.hid (HSM.out rfl)
        go_wp2_with fail
        go_ret
        exact ⟨ret_bool (by rw [HB.out]), by rw [HA.out]; exact HM2.out, Turn.of_below H2.out.below⟩
      · have e1 : (hy == ty) = false := by rw [beq_eq_false_iff_ne]; exact hye
        have e2 : decide (hy = ty) = false := by simp [hye]
        have HA := Lib.hid (HNE.out (by intro e; injection e with _ e; exact hye e))
        have HB := Lib.hid (HDF.out (by intro e; injection e with _ e; exact hye e))
        clear hye
        go_wp2_with (at_mapUpdate; refine wpList_join (t := ⟨hx, ty⟩) (c := ⟨hx, hy⟩) rfl _ _ _ rfl HM2.out keyIsNd hlen HKT.out rfl rfl rfl ?_; intro w4 hmap hg4)
        go_ret
        exact ⟨ret_bool (by rw [HB.out]), by rw [HA.out]; exact hmap, (Turn.of_below H2.out.below).trans (Turn.of_grown hg4 fun g e => by injection e with e; omega)⟩
    · have e1 : (hx == tx) = false := by rw [beq_eq_false_iff_ne]; exact hxe
      have e2 : decide (hx = tx) = false := by simp [hxe]
      have HA := Lib.hid (HNE.out (by intro e; injection e with e _; exact hxe e))
      have HB := Lib.hid (HDF.out (by intro e; injection e with e _; exact hxe e))
      clear hxe
      go_wp2_with (at_mapUpdate; refine wpList_join (t := ⟨tx, ty⟩) (c := ⟨hx, hy⟩) rfl _ _ _ rfl HM2.out keyIsNd hlen HKT.out rfl rfl rfl ?_; intro w4 hmap hg4)
      go_ret
      exact ⟨ret_bool (by rw [HB.out]), by rw [HA.out]; exact hmap, (Turn.of_below H2.out.below).trans (Turn.of_grown hg4 fun g e => by injection e with e; omega)⟩

theorem FiledJ.stp {K : Type} [DecidableEq K] {T : TypeId} {val : K → Value} {nd : Nat → K} {p : Nat → Nat × Nat} : ∀ k, (∀ i, i < k → ∃ l, keyOf Tryz.prog T (val (nd (p i).1)) = some l) → FiledJ T val (stpJ nd p k)
  | 0, _ => fun q hq => by cases hq
  | k + 1, h => (FiledJ.stp k fun i hi => h i (by omega)).add (FiledJ.head (FiledJ.stp k fun i hi => h i (by omega)) (h k (by omega)))

theorem node_key {ns ls : List Nd} (hw : winB ns ls = true) {i : Nat} (hi : i < ns.length) : ∃ l, keyOf Tryz.prog 75 (atN ns i).val = some l := by
  have := (((winB_iff ns ls).1 hw).2.1 i hi).1
  unfold okB at this
  rw [Bool.and_eq_true, inB_iff, inB_iff] at this
  exact keyNd _ (by omega) (by omega)

theorem node_inj {ns ls : List Nd} (hw : winB ns ls = true) : ∀ a b, a < ns.length → b < ns.length → atN ns a = atN ns b → a = b := by
  intro a b ha hb e
  have h := ((winB_iff ns ls).1 hw).2.1
  rcases Nat.lt_trichotomy a b with h1 | h1 | h1
  · exact absurd e ((h b hb).2 a h1)
  · exact h1
  · exact absurd e.symm ((h a ha).2 b h1)

set_option maxRecDepth 100000 in
set_option maxHeartbeats 8000000 in
theorem implTreeN (v1 v2 v3 v4 v : Value) (ns ls : List Nd) (xs : List Int) (w : World) (hn : Prs w v1 ns) (hl : Prs w v2 ls) (hv : Seq w v xs) (hw : winB ns ls = true) :
    Calls Tryz.prog 56 #[.agg #[v1, v2, v3, v4], v] w (BoolIs (lstB ls.length xs && (decide ((xs.length : Int) = (ns.length : Int) - 1) && allB (endP ls (lstF xs)) ns.length xs.length)) w) := by
  have HLS := Lib.hid (fun w h => implLst ls.length xs v w h (by have := hl.len; omega))
  have HN := Lib.hid hn
  have HL := Lib.hid hl
  have HV := Lib.hid hv
  have hnl := hn.len
  have hll := hl.len
  have hvl := hv.len
  obtain ⟨⟨hn1, hn12⟩, hl20⟩ := ((winB_iff ns ls).1 hw).1
  have H0 := Lib.hid (heldG w v1 v2 v3 v4 67)
  obtain ⟨A, c, rfl⟩ := prs_form2 hn
  obtain ⟨A2, c2, rfl⟩ := prs_form2 hl
  obtain ⟨A3, c3, rfl⟩ := seq_form2 hv
  clear hn hl hv
  have e2 : IntKind.i64.wrap ((ns.length : Int) - 1) = (ns.length : Int) - 1 := IntWalk.i64_in _ (by omega)
  by_cases hnum : ¬ (xs.length : Int) = (ns.length : Int) - 1
  · have HR := Lib.hid (show (lstB ls.length xs && (decide ((xs.length : Int) = (ns.length : Int) - 1) && allB (endP ls (lstF xs)) ns.length xs.length)) = false from by simp [hnum])
    generalize (lstB ls.length xs && (decide ((xs.length : Int) = (ns.length : Int) - 1) && allB (endP ls (lstF xs)) ns.length xs.length)) = r at *
    have e1 : ((xs.length : Int) != (ns.length : Int) - 1) = true := by simp [hnum]
    have HNM := Lib.hid hnum; clear hnum
    obtain ⟨x0, x1, x2, x3, _⟩ := H0.out.1
    go_enter Tryz.func56, Tryz.ntmps56
    go_wp2_with fail
    go_ret
    exact ⟨ret_bool HR.out.symm, H0.out.below⟩
  have hnum : (xs.length : Int) = (ns.length : Int) - 1 := Classical.not_not.1 hnum
  have e1 : ((xs.length : Int) != (ns.length : Int) - 1) = false := by simp [hnum]
  cases hs : lstB ls.length xs
  · have HR := Lib.hid (show (false && (decide ((xs.length : Int) = (ns.length : Int) - 1) && allB (endP ls (lstF xs)) ns.length xs.length)) = false from rfl)
    generalize (false && (decide ((xs.length : Int) = (ns.length : Int) - 1) && allB (endP ls (lstF xs)) ns.length xs.length)) = r at *
    rw [hs] at HLS
    have HNM := Lib.hid hnum; clear hnum hs
    obtain ⟨x0, x1, x2, x3, _⟩ := H0.out.1
    go_enter Tryz.func56, Tryz.ntmps56
    go_wp2_with fail
    refine (HLS.out _ (HV.out.step H0.out.below)).mono ?_
    rintro e wH2 ⟨rfl, hb⟩
    have H2 := Lib.hid ((H0.out).step hb); clear hb
    try clear x0 x1 x2 x3
    obtain ⟨x0, x1, x2, x3, _⟩ := H2.out.1
    go_wp2_with fail
    go_ret
    exact ⟨ret_bool HR.out.symm, H2.out.below⟩
  have HLP := Lib.hid ((lstB_iff ls.length xs).1 hs)
  have hx20 := HLP.out.len
  have HR := Lib.hid (show (true && (decide ((xs.length : Int) = (ns.length : Int) - 1) && allB (endP ls (lstF xs)) ns.length xs.length)) = allB (endP ls (lstF xs)) ns.length xs.length from by simp [hnum])
  generalize (true && (decide ((xs.length : Int) = (ns.length : Int) - 1) && allB (endP ls (lstF xs)) ns.length xs.length)) = r at *
  rw [hs] at HLS
  have HNM := Lib.hid hnum; clear hnum hs
  have HW := Lib.hid hw; clear hw
  have HIN := Lib.hid (fun k (hk : k < xs.length) => (show lstF xs k < ls.length from by have := HLP.out.inr k hk; unfold lstF; omega))
  have HBAD := Lib.hid (fun k (hk : k < xs.length) h => allB_bad (p := endP ls (lstF xs)) (N := ns.length) hk h)
  have HGOOD := Lib.hid (fun h => allB_good (p := endP ls (lstF xs)) (N := ns.length) (m := xs.length) h)
  have HHDS := Lib.hid (fun k (hk : k < xs.length) => stp_heads (atN ns) (endP ls (lstF xs)) ns.length (node_inj HW.out) k (fun i hi => endP_lt HW.out (HIN.out i (by omega))))
  have HJST := Lib.hid (fun k => (show stpJ (atN ns) (endP ls (lstF xs)) (k + 1) = addJ (stpJ (atN ns) (endP ls (lstF xs)) k) (atN ns (endP ls (lstF xs) k).1) (atN ns (endP ls (lstF xs) k).2) from rfl))
  have HJZ := Lib.hid (show stpJ (atN ns) (endP ls (lstF xs)) 0 = [] from rfl)
  have HJO := Lib.hid (stpJ_ok (atN ns) (endP ls (lstF xs)))
  have HJL := Lib.hid (stpJ_len (atN ns) (endP ls (lstF xs)))
  have HFJ := Lib.hid (fun k (hk : k ≤ xs.length) => FiledJ.stp (T := 75) (val := Nd.val) (nd := atN ns) (p := endP ls (lstF xs)) k fun i hi => node_key HW.out (endP_lt HW.out (HIN.out i (by omega))).1)
  have HEP := Lib.hid (fun (k i j : Nat) (h : atN ls (lstF xs k) = ⟨i, j⟩) => endP_is (ls := ls) (f := lstF xs) h)
  generalize allB (endP ls (lstF xs)) ns.length xs.length = ab at *
  generalize stpB (endP ls (lstF xs)) ns.length = ST at *
  generalize stpJ (atN ns) (endP ls (lstF xs)) = JJ at *
  generalize endP ls (lstF xs) = EP at *
  have hmm := @run_makeMap Tryz.prog
  obtain ⟨x0, x1, x2, x3, _⟩ := H0.out.1
  go_enter Tryz.func56, Tryz.ntmps56
  go_wp2_with fail
  refine (HLS.out _ (HV.out.step H0.out.below)).mono ?_
  rintro e wH2 ⟨rfl, hb⟩
  have H2 := Lib.hid ((H0.out).step hb); clear hb
  try clear x0 x1 x2 x3
  obtain ⟨x0, x1, x2, x3, _⟩ := H2.out.1
  go_wp2_with fail
  clear hmm x0 x1 x2 x3
  have hsz2 := H2.out.2.1.1
  have H3 := Lib.hid (H2.out.alloc (.map #[] 0))
  have HM3 := Lib.hid (UfMap.made (K := Nd) (T := 75) (val := Nd.val) wH2)
  go_loopw [30] (fun i wr => ∃ k : Nat, k ≤ xs.length ∧ i = .int .i64 k ∧ (∀ j, j < k → ST j = true) ∧ UfMap 75 Nd.val wr wH2.heap.size (JJ k) ∧ Held w wr [(w.heap.size, 0, .slice A ns.length c), (w.heap.size, 1, .slice A2 ls.length c2), (w.heap.size, 2, v3), (w.heap.size, 3, v4)]) (fun i _ => xs.length - (intOf i).toNat)
  case atStart => exact ⟨0, Nat.zero_le _, rfl, fun j hj => by omega, by rw [HJZ.out]; exact HM3.out, H3.out⟩
  case round =>
    clear HM3 H3
    obtain ⟨k, hk, rfl, hok, hgk, hh⟩ := hrel
    have HOK := Lib.hid hok; clear hok
    have HMK := Lib.hid hgk; clear hgk
    have H3 := Lib.hid hh; clear hh
    by_cases hlt : k < xs.length
    · obtain ⟨bb, oo, rfl, hbl, hcs⟩ := seq_at HV.out k hlt
      have hin := HLP.out.inr k hlt
      obtain ⟨q, hq⟩ : ∃ q : Nat, atZ xs k = (q : Int) := ⟨(atZ xs k).toNat, by omega⟩
      have hqlt : q < ls.length := by omega
      have c0 := hcs k hlt
      rw [hq] at c0
      clear hcs hin
      have hlf : lstF xs k = q := by unfold lstF; rw [hq]; rfl
      obtain ⟨i, j, hij, hin, hjn⟩ := lead_nat HW.out hqlt
      have HEK := Lib.hid (HEP.out k i j (by rw [hlf]; exact hij))
      clear hlf hq
      obtain ⟨bl, ol, cl, he, hbl2, hcl⟩ := prs_at2 HL.out hqlt
      simp only [Value.slice.injEq] at he
      obtain ⟨rfl, -, -⟩ := he
      obtain ⟨c1, c2'⟩ := hcl q hqlt
      rw [hij] at c1 c2'
      simp only at c1 c2'
      clear hcl
      have HHD := Lib.hid (HHDS.out k hlt)
      have HJS := Lib.hid (HJST.out k)
      rw [HEK.out] at HHD HJS
      simp only at HHD HJS
      have HE := Lib.hid (fun W (h : Below w.heap.size w W) => implEnds2 ns (.slice A ns.length c) i j W (HN.out.step h) hin hjn)
      have HKA := Lib.hid (node_key HW.out hin)
      have HKB := Lib.hid (node_key HW.out hjn)
      generalize atN ns i = na at *
      generalize atN ns j = nb at *
      obtain ⟨ax, ay⟩ := na
      obtain ⟨bx, by'⟩ := nb
      unfold EndsIs Nd.val at HE
      simp only at HE
      have HBK := Lib.hid (HBAD.out k hlt)
      have hB3 := H3.out.below
      have H4 := Lib.hid (held_plus H3.out (gs := [(bb, oo + k, .int .i64 (q : Int)), (bl, ol + q * 2, .int .i64 (i : Int)), (bl, ol + q * 2 + 1, .int .i64 (j : Int))]) ⟨(hB3.cell (p := ⟨bb, oo + k, none⟩) hbl).trans c0, (hB3.cell (p := ⟨bl, ol + q * 2, none⟩) hbl2).trans c1, (hB3.cell (p := ⟨bl, ol + q * 2 + 1, none⟩) hbl2).trans c2', trivial⟩ ⟨Nat.lt_of_lt_of_le hbl hB3.size, Nat.lt_of_lt_of_le hbl2 hB3.size, Nat.lt_of_lt_of_le hbl2 hB3.size, trivial⟩)
      simp only [List.cons_append, List.nil_append] at H4
      clear c0 c1 c2' hB3
      have p1 : (0 : Int) ≤ k := by omega
      have p2 : (k : Int) < (xs.length : Int) := by omega
      have p3 : (0 : Int) ≤ q := by omega
      have p4 : (q : Int) < (ls.length : Int) := by omega
      have HIJ := Lib.hid hij; clear hij
      obtain ⟨x0, x1, x2, x3, x4, x5, x6, _⟩ := H4.out.1
      go_wp2_with fail
      clear x0 x1 x2 x3 x4 x5 x6
      have HBH5 := Lib.hid H4.out.2.1
      refine regionW (fun W => Held _ W [(w.heap.size, 0, .slice A ns.length c), (w.heap.size, 1, .slice (some ⟨bl, ol, none⟩) ls.length c2), (w.heap.size, 2, v3), (w.heap.size, 3, v4), (bb, oo + k, .int .i64 (q)), (bl, ol + q * 2, .int .i64 (i)), (bl, ol + q * 2 + 1, .int .i64 (j))]) (by kernel_rfl) (Held.start H4.out.1 H4.out.2.1).drew ?_
      refine takeW (i := 0) (v := ?_) (Stable.held _ _) rfl (by kernel_rfl) (by kernel_rfl) (by kernel_rfl) (fun _ _ _ h => h) ?_ ?_
      rotate_left
      · first | (refine Or.inl ⟨by rfl, fun W hS => detR_value (w' := W) ?_ (Below.refl _ _)⟩; obtain ⟨x0, x1, x2, x3, x4, x5, x6, _⟩ := hS.1; go_simp; first | done | with_reducible rfl) | fail
      simp only [Act.put, List.setIfInBounds_toArray, List.set_cons_zero, List.set_cons_succ]
      refine takeW (i := 1) (v := ?_) (Stable.held _ _) rfl (by kernel_rfl) (by kernel_rfl) (by kernel_rfl) (fun _ _ _ h => h) ?_ ?_
      rotate_left
      · first | (refine Or.inl ⟨by rfl, fun W hS => detR_value (w' := W) ?_ (Below.refl _ _)⟩; obtain ⟨x0, x1, x2, x3, x4, x5, x6, _⟩ := hS.1; go_simp; first | done | with_reducible rfl) | fail
      simp only [Act.put, List.setIfInBounds_toArray, List.set_cons_zero, List.set_cons_succ]
      refine takeW (i := 2) (v := ?_) (Stable.held _ _) rfl (by kernel_rfl) (by kernel_rfl) (by kernel_rfl) (fun _ _ _ h => h) ?_ ?_
      rotate_left
      · first | (refine Or.inl ⟨by rfl, fun W hS => detR_value (w' := W) ?_ (Below.refl _ _)⟩; obtain ⟨x0, x1, x2, x3, x4, x5, x6, _⟩ := hS.1; go_simp; first | done | with_reducible rfl) | fail
      simp only [Act.put, List.setIfInBounds_toArray, List.set_cons_zero, List.set_cons_succ]
      refine takeW (i := 3) (v := ?_) (Stable.held _ _) rfl (by kernel_rfl) (by kernel_rfl) (by kernel_rfl) (fun _ _ _ h => h) ?_ ?_
      rotate_left
      · first | (refine Or.inl ⟨by rfl, fun W hS => detR_value (w' := W) ?_ (Below.refl _ _)⟩; obtain ⟨x0, x1, x2, x3, x4, x5, x6, _⟩ := hS.1; go_simp; first | done | with_reducible rfl) | fail
      simp only [Act.put, List.setIfInBounds_toArray, List.set_cons_zero, List.set_cons_succ]
      refine takeW (i := 4) (v := ?_) (Stable.held _ _) rfl (by kernel_rfl) (by kernel_rfl) (by kernel_rfl) (fun _ _ _ h => h) ?_ ?_
      rotate_left
      · first | (refine Or.inl ⟨by rfl, fun W hS => detR_value (w' := W) ?_ (Below.refl _ _)⟩; obtain ⟨x0, x1, x2, x3, x4, x5, x6, _⟩ := hS.1; go_simp; first | done | with_reducible rfl) | fail
      simp only [Act.put, List.setIfInBounds_toArray, List.set_cons_zero, List.set_cons_succ]
      refine takeW (i := 5) (v := ?_) (Stable.held _ _) rfl (by kernel_rfl) (by kernel_rfl) (by kernel_rfl) (fun _ _ _ h => h) ?_ ?_
      rotate_left
      · first | (refine Or.inl ⟨by rfl, fun W hS => detR_value (w' := W) ?_ (Below.refl _ _)⟩; obtain ⟨x0, x1, x2, x3, x4, x5, x6, _⟩ := hS.1; go_simp; first | done | with_reducible rfl) | fail
      simp only [Act.put, List.setIfInBounds_toArray, List.set_cons_zero, List.set_cons_succ]
      refine takeW (i := 6) (v := ?_) (Stable.held _ _) rfl (by kernel_rfl) (by kernel_rfl) (by kernel_rfl) (fun _ _ _ h => h) ?_ ?_
      rotate_left
      · first | (refine Or.inl ⟨by rfl, fun W hS => detR_value (w' := W) ?_ (Below.refl _ _)⟩; obtain ⟨x0, x1, x2, x3, x4, x5, x6, _⟩ := hS.1; go_simp; first | done | with_reducible rfl) | fail
      simp only [Act.put, List.setIfInBounds_toArray, List.set_cons_zero, List.set_cons_succ]
      refine takeW (i := 7) (v := ?_) (Stable.held _ _) rfl (by kernel_rfl) (by kernel_rfl) (by kernel_rfl) (fun _ _ _ h => h) ?_ ?_
      rotate_left
      · first | (refine Or.inl ⟨by rfl, fun W hS => detR_value (w' := W) ?_ (Below.refl _ _)⟩; obtain ⟨x0, x1, x2, x3, x4, x5, x6, _⟩ := hS.1; go_simp; first | done | with_reducible rfl) | fail
      simp only [Act.put, List.setIfInBounds_toArray, List.set_cons_zero, List.set_cons_succ]
      refine takeW (i := 8) (v := ?_) (Stable.held _ _) rfl (by kernel_rfl) (by kernel_rfl) (by kernel_rfl) (fun _ _ _ h => h) ?_ ?_
      rotate_left
      · first | (refine Or.inl ⟨by rfl, fun W hS => detR_value (w' := W) ?_ (Below.refl _ _)⟩; obtain ⟨x0, x1, x2, x3, x4, x5, x6, _⟩ := hS.1; go_simp; first | done | with_reducible rfl) | fail
      simp only [Act.put, List.setIfInBounds_toArray, List.set_cons_zero, List.set_cons_succ]
      refine takeW (i := 9) (v := ?_) (Stable.held _ _) rfl (by kernel_rfl) (by kernel_rfl) (by kernel_rfl) (fun _ _ _ h => h) ?_ ?_
      rotate_left
      · first | (refine Or.inl ⟨by rfl, fun W hS => ?_⟩; have hH := H4.out.after hS; refine detR_call (w' := W) (f := ?_) (args := ?_) ?_ ?_; rotate_left 2; (go_simp; (refine ⟨?_, ?_⟩ <;> with_reducible rfl)); (first | (with_reducible refine (HE.out _ hH.below).mono ?_) | fail); (first | (rintro e wn ⟨rfl, hb⟩; refine ⟨?_, hb⟩; with_reducible rfl) | (rintro e wn ⟨rfl, rfl⟩; refine ⟨?_, Below.refl _ _⟩; with_reducible rfl) | fail)) | fail
      simp only [Act.put, List.setIfInBounds_toArray, List.set_cons_zero, List.set_cons_succ]
      refine takeW (i := 10) (v := ?_) (Stable.held _ _) rfl (by kernel_rfl) (by kernel_rfl) (by kernel_rfl) (fun _ _ _ h => h) ?_ ?_
      rotate_left
      · first | (refine Or.inl ⟨by rfl, fun W hS => detR_value (w' := W) ?_ (Below.refl _ _)⟩; obtain ⟨x0, x1, x2, x3, x4, x5, x6, _⟩ := hS.1; go_simp; first | done | with_reducible rfl) | fail
      simp only [Act.put, List.setIfInBounds_toArray, List.set_cons_zero, List.set_cons_succ]
      refine takeW (i := 11) (v := ?_) (Stable.held _ _) rfl (by kernel_rfl) (by kernel_rfl) (by kernel_rfl) (fun _ _ _ h => h) ?_ ?_
      rotate_left
      · first | (refine Or.inl ⟨by rfl, fun W hS => detR_value (w' := W) ?_ (Below.refl _ _)⟩; obtain ⟨x0, x1, x2, x3, x4, x5, x6, _⟩ := hS.1; go_simp; first | done | with_reducible rfl) | fail
      simp only [Act.put, List.setIfInBounds_toArray, List.set_cons_zero, List.set_cons_succ]
      refine takeW (i := 12) (v := ?_) (Stable.held _ _) rfl (by kernel_rfl) (by kernel_rfl) (by kernel_rfl) (fun _ _ _ h => h) ?_ ?_
      rotate_left
      · first | (refine Or.inl ⟨by rfl, fun W hS => detR_value (w' := W) ?_ (Below.refl _ _)⟩; obtain ⟨x0, x1, x2, x3, x4, x5, x6, _⟩ := hS.1; go_simp; first | done | with_reducible rfl) | fail
      simp only [Act.put, List.setIfInBounds_toArray, List.set_cons_zero, List.set_cons_succ]
      refine freeOr (i := 13) (j := 14) (by kernel_rfl) ?_ ?_
      · refine freeOp (i := 13) (NewB _ 75 2) (Stable.held _ _) (fun v => stable_newB _ _ _ v) rfl (by rfl) (fun W hS => freeR_new (T := 75) (n := 2) (cs := #[.int .i64 0, .int .i64 0]) (by go_simp; first | done | with_reducible rfl) hS.2.2.size rfl) (fun vf hex => ?_)
        clear hex
        simp only [Act.put, List.setIfInBounds_toArray, List.set_cons_zero, List.set_cons_succ]
        refine freeW (i := 14) (fun v => Two _ 75 (Sz 2) (Sz 2) vf v) (Stable.and (Stable.held _ _) (stable_newB _ _ _ _)) (fun v => stable_two _ _ _ _ _ _) rfl (by kernel_rfl) (by rfl) (fun W hS => freeR_after (T := 75) (n := 2) (cs := #[.int .i64 0, .int .i64 0]) (by go_simp; first | done | with_reducible rfl) hS.1.2.2.size rfl hS.2) (fun vs => ?_)
        simp only [Act.put, List.setIfInBounds_toArray, List.set_cons_zero, List.set_cons_succ]
        refine storeA (i := 15) #[.int .i64 ax, .int .i64 ay] (.inl rfl) rfl (by kernel_rfl) (by rfl) rfl (by rfl) (by rfl) HBH5.out rfl (by kernel_rfl) (by simp [Value.oneCell']) ?_
        simp only [Act.put, List.setIfInBounds_toArray, List.set_cons_zero, List.set_cons_succ]
        refine storeB (i := 16) #[.int .i64 bx, .int .i64 by'] (.inl rfl) rfl (by kernel_rfl) (by rfl) rfl (by rfl) (by rfl) HBH5.out rfl rfl (by kernel_rfl) (by simp [Value.oneCell']) ?_
        simp only [Act.put, List.setIfInBounds_toArray, List.set_cons_zero, List.set_cons_succ]
        refine doneW (by kernel_rfl) fun wH5 HG => ?_
        obtain ⟨⟨⟨⟨hH, _⟩, _⟩, _⟩, ht⟩ := HG
        have BWH5 := Lib.hid hH.2.2
        obtain ⟨b1H5, b2H5, rfl, rfl, hj⟩ := Held.joined2 H4.out hH ht
        have H5 := Lib.hid hj; clear hj hH ht HBH5
        try clear x0 x1 x2 x3 x4 x5 x6
        obtain ⟨x0, x1, x2, x3, x4, x5, x6, x7, x8, x9, x10, _⟩ := H5.out.1
        go_wp2_with fail
        have hb1 := Lib.hid H5.out.below
        have HJN := Lib.hid (implJoinN (JJ k) wH2.heap.size ⟨ax, ay⟩ ⟨bx, by'⟩ _ (HMK.out.step BWH5.out) (HJO.out k) (HFJ.out k (by omega)) HKA.out HKB.out (by have := HJL.out k; omega))
        rw [← HHD.out, ← HJS.out] at HJN
        unfold Nd.val at HJN
        simp only at HJN
        clear BWH5
        generalize hd : ST k = d at *
        cases d
        · have HRF := Lib.hid (show r = false from by rw [HR.out]; exact HBK.out rfl)
          refine HJN.out.mono ?_
          rintro e w6 ⟨rfl, hg6, ht6⟩
          have H6 := Lib.hid ((H5.out.only (gs := [(w.heap.size, 0, .slice A ns.length c), (w.heap.size, 1, .slice (some ⟨bl, ol, none⟩) ls.length c2), (w.heap.size, 2, v3), (w.heap.size, 3, v4)]) (fun ⟨_, _, _, _, a, b, c, d, _⟩ => ⟨a, b, c, d, trivial⟩) (fun ⟨_, _, _, _, a, b, c, d, _⟩ => ⟨a, b, c, d, trivial⟩)).turn ht6 ⟨.inl (by omega), .inl (by omega), .inl (by omega), .inl (by omega), trivial⟩ (by omega))
          go_wp2_with fail
          go_ret
          exact ⟨ret_bool HRF.out.symm, H6.out.below⟩
        · have HOK2 := Lib.hid (show ∀ j', j' < k + 1 → ST j' = true from fun j' hj' => by
            by_cases e : j' = k
            · rw [e]; exact hd
            · exact HOK.out j' (by omega))
          clear hd
          refine HJN.out.mono ?_
          rintro e w6 ⟨rfl, hg6, ht6⟩
          have H6 := Lib.hid ((H5.out.only (gs := [(w.heap.size, 0, .slice A ns.length c), (w.heap.size, 1, .slice (some ⟨bl, ol, none⟩) ls.length c2), (w.heap.size, 2, v3), (w.heap.size, 3, v4)]) (fun ⟨_, _, _, _, a, b, c, d, _⟩ => ⟨a, b, c, d, trivial⟩) (fun ⟨_, _, _, _, a, b, c, d, _⟩ => ⟨a, b, c, d, trivial⟩)).turn ht6 ⟨.inl (by omega), .inl (by omega), .inl (by omega), .inl (by omega), trivial⟩ (by omega))
          have HG6 := Lib.hid hg6
          clear hg6 ht6
          go_wp2_with fail
          exact ⟨⟨k + 1, by omega, by go_num, HOK2.out, HG6.out, H6.out⟩, by simp [intOf]; omega⟩
      · refine freeOp (i := 14) (NewB _ 75 2) (Stable.held _ _) (fun v => stable_newB _ _ _ v) rfl (by rfl) (fun W hS => freeR_new (T := 75) (n := 2) (cs := #[.int .i64 0, .int .i64 0]) (by go_simp; first | done | with_reducible rfl) hS.2.2.size rfl) (fun vf hex => ?_)
        clear hex
        simp only [Act.put, List.setIfInBounds_toArray, List.set_cons_zero, List.set_cons_succ]
        refine freeW (i := 13) (fun v => Two _ 75 (Sz 2) (Sz 2) v vf) (Stable.and (Stable.held _ _) (stable_newB _ _ _ _)) (fun v => stable_two _ _ _ _ _ _) rfl (by kernel_rfl) (by rfl) (fun W hS => freeR_before (T := 75) (n := 2) (cs := #[.int .i64 0, .int .i64 0]) (by go_simp; first | done | with_reducible rfl) hS.1.2.2.size rfl hS.2) (fun vs => ?_)
        simp only [Act.put, List.setIfInBounds_toArray, List.set_cons_zero, List.set_cons_succ]
        refine storeA (i := 15) #[.int .i64 ax, .int .i64 ay] (.inr rfl) rfl (by kernel_rfl) (by rfl) rfl (by rfl) (by rfl) HBH5.out rfl (by kernel_rfl) (by simp [Value.oneCell']) ?_
        simp only [Act.put, List.setIfInBounds_toArray, List.set_cons_zero, List.set_cons_succ]
        refine storeB (i := 16) #[.int .i64 bx, .int .i64 by'] (.inr rfl) rfl (by kernel_rfl) (by rfl) rfl (by rfl) (by rfl) HBH5.out rfl rfl (by kernel_rfl) (by simp [Value.oneCell']) ?_
        simp only [Act.put, List.setIfInBounds_toArray, List.set_cons_zero, List.set_cons_succ]
        refine doneW (by kernel_rfl) fun wH5 HG => ?_
        obtain ⟨⟨⟨⟨hH, _⟩, _⟩, _⟩, ht⟩ := HG
        have BWH5 := Lib.hid hH.2.2
        obtain ⟨b1H5, b2H5, rfl, rfl, hj⟩ := Held.joined2 H4.out hH ht
        have H5 := Lib.hid hj; clear hj hH ht HBH5
        try clear x0 x1 x2 x3 x4 x5 x6
        obtain ⟨x0, x1, x2, x3, x4, x5, x6, x7, x8, x9, x10, _⟩ := H5.out.1
        go_wp2_with fail
        have hb1 := Lib.hid H5.out.below
        have HJN := Lib.hid (implJoinN (JJ k) wH2.heap.size ⟨ax, ay⟩ ⟨bx, by'⟩ _ (HMK.out.step BWH5.out) (HJO.out k) (HFJ.out k (by omega)) HKA.out HKB.out (by have := HJL.out k; omega))
        rw [← HHD.out, ← HJS.out] at HJN
        unfold Nd.val at HJN
        simp only at HJN
        clear BWH5
        generalize hd : ST k = d at *
        cases d
        · have HRF := Lib.hid (show r = false from by rw [HR.out]; exact HBK.out rfl)
          refine HJN.out.mono ?_
          rintro e w6 ⟨rfl, hg6, ht6⟩
          have H6 := Lib.hid ((H5.out.only (gs := [(w.heap.size, 0, .slice A ns.length c), (w.heap.size, 1, .slice (some ⟨bl, ol, none⟩) ls.length c2), (w.heap.size, 2, v3), (w.heap.size, 3, v4)]) (fun ⟨_, _, _, _, a, b, c, d, _⟩ => ⟨a, b, c, d, trivial⟩) (fun ⟨_, _, _, _, a, b, c, d, _⟩ => ⟨a, b, c, d, trivial⟩)).turn ht6 ⟨.inl (by omega), .inl (by omega), .inl (by omega), .inl (by omega), trivial⟩ (by omega))
          go_wp2_with fail
          go_ret
          exact ⟨ret_bool HRF.out.symm, H6.out.below⟩
        · have HOK2 := Lib.hid (show ∀ j', j' < k + 1 → ST j' = true from fun j' hj' => by
            by_cases e : j' = k
            · rw [e]; exact hd
            · exact HOK.out j' (by omega))
          clear hd
          refine HJN.out.mono ?_
          rintro e w6 ⟨rfl, hg6, ht6⟩
          have H6 := Lib.hid ((H5.out.only (gs := [(w.heap.size, 0, .slice A ns.length c), (w.heap.size, 1, .slice (some ⟨bl, ol, none⟩) ls.length c2), (w.heap.size, 2, v3), (w.heap.size, 3, v4)]) (fun ⟨_, _, _, _, a, b, c, d, _⟩ => ⟨a, b, c, d, trivial⟩) (fun ⟨_, _, _, _, a, b, c, d, _⟩ => ⟨a, b, c, d, trivial⟩)).turn ht6 ⟨.inl (by omega), .inl (by omega), .inl (by omega), .inl (by omega), trivial⟩ (by omega))
          have HG6 := Lib.hid hg6
          clear hg6 ht6
          go_wp2_with fail
          exact ⟨⟨k + 1, by omega, by go_num, HOK2.out, HG6.out, H6.out⟩, by simp [intOf]; omega⟩
    · obtain rfl : k = xs.length := by omega
      have HRT := Lib.hid (show r = true from by rw [HR.out]; exact HGOOD.out HOK.out)
      go_wp2_with fail
      go_ret
      exact ⟨ret_bool HRT.out.symm, H3.out.below⟩

set_option maxRecDepth 100000 in
theorem implSpan (ns ls : List Nd) (xs : List Int) (vn vl v : Value) (w : World) (hn : Prs w vn ns) (hl : Prs w vl ls) (hv : Seq w v xs) :
    Calls Tryz.prog 19 #[.agg #[vn, vl], v] w (BoolIs (spanB ns ls xs) w) := by
  have HV := Lib.hid hv
  obtain ⟨A3, c3, rfl⟩ := seq_form2 hv
  clear hv
  cases hh : wholeB ns ls
  · have HR := Lib.hid (show spanB ns ls xs = false from by unfold spanB; rw [hh]; rfl)
    generalize spanB ns ls xs = r at *
    have HN := Lib.hid hn
    have HL := Lib.hid hl
    have HGL := Lib.hid (fun w h1 h2 => implGlass ns ls vn vl w h1 h2)
    unfold GlassNew at HGL
    have H0 := Lib.hid (held_pair w vn vl 32)
    obtain ⟨A, c, rfl⟩ := prs_form2 hn
    obtain ⟨A2, c2, rfl⟩ := prs_form2 hl
    clear hn hl
    rw [hh] at HGL
    clear hh
    go_enter Tryz.func19, Tryz.ntmps19
    go_wp2_with fail
    refine (HGL.out _ (HN.out.step H0.out.below) (HL.out.step H0.out.below)).mono ?_
    rintro e w1 ⟨v1, v2, v3, v4, rfl, g1, g2, g3, g4, hb⟩
    have H1 := Lib.hid (H0.out.step hb)
    have G0 := Lib.hid (heldG w1 v1 v2 v3 v4 67)
    have B1 := Lib.hid (H1.out.below.trans (G0.out.below.mono H1.out.below.size))
    have H1G := Lib.hid (H1.out.step G0.out.below)
    have G1 := Lib.hid (g1.step G0.out.below)
    have G2 := Lib.hid (g2.step G0.out.below)
    have G3 := Lib.hid (g3.step G0.out.below)
    have G4 := Lib.hid (g4.step G0.out.below)
    obtain ⟨A5, c5, rfl⟩ := prs_form2 g1
    obtain ⟨A6, c6, rfl⟩ := prs_form2 g2
    obtain ⟨A7, c7, rfl⟩ := faces_form g3
    obtain ⟨A8, c8, rfl⟩ := ints_form g4
    clear hb g1 g2 g3 g4
    obtain ⟨x0, x1, _⟩ := H1G.out.1
    obtain ⟨y0, y1, y2, y3, _⟩ := G0.out.1
    go_wp2_with fail
    go_ret
    exact ⟨ret_bool HR.out.symm, B1.out⟩
  · have hg1 : gN ns ls = ns := if_pos hh
    have hg2 : gL ns ls = ls := if_pos hh
    obtain ⟨hw, -, -, -⟩ := whole_win hh
    have HT := Lib.hid (fun v1 v2 v3 v4 w h1 h2 h3 => implTreeN v1 v2 v3 v4 (.slice A3 xs.length c3) ns ls xs w h1 h2 h3 hw)
    have HR := Lib.hid (show spanB ns ls xs = (lstB ls.length xs && (decide ((xs.length : Int) = (ns.length : Int) - 1) && allB (endP ls (lstF xs)) ns.length xs.length)) from by unfold spanB; rw [hh]; rfl)
    rw [← HR.out] at HT
    generalize spanB ns ls xs = r at *
    have HN := Lib.hid hn
    have HL := Lib.hid hl
    have HGL := Lib.hid (fun w h1 h2 => implGlass ns ls vn vl w h1 h2)
    unfold GlassNew at HGL
    have H0 := Lib.hid (held_pair w vn vl 32)
    obtain ⟨A, c, rfl⟩ := prs_form2 hn
    obtain ⟨A2, c2, rfl⟩ := prs_form2 hl
    clear hn hl
    rw [hh, hg1, hg2] at HGL
    clear hh hg1 hg2 hw HR
    go_enter Tryz.func19, Tryz.ntmps19
    go_wp2_with fail
    refine (HGL.out _ (HN.out.step H0.out.below) (HL.out.step H0.out.below)).mono ?_
    rintro e w1 ⟨v1, v2, v3, v4, rfl, g1, g2, g3, g4, hb⟩
    have H1 := Lib.hid (H0.out.step hb)
    have G0 := Lib.hid (heldG w1 v1 v2 v3 v4 67)
    have B1 := Lib.hid (H1.out.below.trans (G0.out.below.mono H1.out.below.size))
    have H1G := Lib.hid (H1.out.step G0.out.below)
    have G1 := Lib.hid (g1.step G0.out.below)
    have G2 := Lib.hid (g2.step G0.out.below)
    have G3 := Lib.hid (g3.step G0.out.below)
    have G4 := Lib.hid (g4.step G0.out.below)
    obtain ⟨A5, c5, rfl⟩ := prs_form2 g1
    obtain ⟨A6, c6, rfl⟩ := prs_form2 g2
    obtain ⟨A7, c7, rfl⟩ := faces_form g3
    obtain ⟨A8, c8, rfl⟩ := ints_form g4
    clear hb g1 g2 g3 g4
    obtain ⟨x0, x1, _⟩ := H1G.out.1
    obtain ⟨y0, y1, y2, y3, _⟩ := G0.out.1
    go_wp2_with fail
    refine (HT.out _ _ _ _ _ G1.out G2.out (HV.out.step B1.out)).mono ?_
    rintro e w2 ⟨rfl, hb⟩
    have B2 := Lib.hid (B1.out.trans (hb.mono B1.out.size)); clear hb
    go_wp2_with fail
    go_ret
    exact ⟨rfl, B2.out⟩
end Go.Proofs.YtmcbbjobjogkmaaGreat
