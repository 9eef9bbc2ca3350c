/-
  Several texts in one: a claim has at most 60 files.
-/
import Derived.Test.YtepacoacalhdcaaGreatWalkJ
import Derived.Test.YtepacoacalhdcaaGreatDet2
import Derived.Test.YtepacoacalhdcaaGreatG2
import Derived.Test.YtepacoacalhdcaaGreatG25

namespace Go.Proofs.YtepacoacalhdcaaGreat
open Go.RowKit
set_option linter.unusedVariables false
set_option linter.unusedSimpArgs false

theorem stable_seqA (v : Value) (xs : List Int) : Stable fun W => Seq W v xs := fun _ _ h hb => h.step hb

theorem area_prod {a b : Int} (h1 : 0 ≤ a) (h2 : a ≤ 20) (h3 : 0 ≤ b) (h4 : b ≤ 20) : 0 ≤ a * b ∧ a * b ≤ 400 := by
  have p := Int.mul_nonneg h1 h3
  have q := Int.mul_le_mul h2 h4 h3 (by omega : (0 : Int) ≤ 20)
  omega

theorem area_okb {n : Nd} (h : okB n = true) : 0 ≤ n.x ∧ n.x ≤ 20 ∧ 0 ≤ n.y ∧ n.y ≤ 20 := by
  unfold okB at h
  simp only [Bool.and_eq_true, inB_iff] at h
  exact ⟨h.1.1, h.1.2, h.2.1, h.2.2⟩

/-- Each of the list's darts is one of the window's. -/
def DartsOf (ls : List Nd) (l : List Int) : Prop := ∀ i, i < l.length → ∃ q : Nat, atZ l i = q ∧ q < 2 * ls.length

theorem area_step {ns ls : List Nd} {l : List Int} (hw : winB ns ls = true) (hl : DartsOf ls l) {m : Nat} (hm : m < l.length) : ∃ q a b : Nat, atZ l m = q ∧ q < 2 * ls.length ∧ dF ls q = a ∧ dT ls q = b ∧ a < ns.length ∧ b < ns.length ∧ okB (atN ns a) = true ∧ okB (atN ns b) = true ∧
    areaL ns ls l (m + 1) = areaL ns ls l m + ((atN ns a).x * (atN ns b).y - (atN ns a).y * (atN ns b).x) := by
  obtain ⟨q, hq, hq2⟩ := hl m hm
  obtain ⟨a, b, ha, hb, ha2, hb2, _⟩ := dart_nat hw hq2
  refine ⟨q, a, b, hq, hq2, ha, hb, ha2, hb2, ((((winB_iff ns ls).1 hw).2.1 a ha2).1), ((((winB_iff ns ls).1 hw).2.1 b hb2).1), ?_⟩
  rw [areaL, hq, Int.toNat_natCast, ha, hb]
  rfl

theorem area_bd {ns ls : List Nd} {l : List Int} (hw : winB ns ls = true) (hl : DartsOf ls l) : ∀ m, m ≤ l.length → -(400 * (m : Int)) ≤ areaL ns ls l m ∧ areaL ns ls l m ≤ 400 * m
  | 0, _ => by simp [areaL]
  | m + 1, h => by
    obtain ⟨q, a, b, -, -, -, -, -, -, oa, ob, e⟩ := area_step hw hl (show m < l.length by omega)
    have ih := area_bd hw hl m (by omega)
    obtain ⟨a1, a2, a3, a4⟩ := area_okb oa
    obtain ⟨b1, b2, b3, b4⟩ := area_okb ob
    have p := area_prod a1 a2 b3 b4
    have p2 := area_prod a3 a4 b1 b2
    rw [e]
    omega

set_option maxRecDepth 100000 in
set_option maxHeartbeats 4000000 in
theorem implAlong (ns ls : List Nd) (vn vl vx : Value) (l : List Int) (w : World) (hn : Prs w vn ns) (hl : Prs w vl ls) (hx : Seq w vx l) (hw : winB ns ls = true) (hd : DartsOf ls l) (h40 : l.length ≤ 40) :
    Calls Tryz.prog 142 #[.agg #[vn, vl], vx] w (IntIs (areaL ns ls l l.length) w) := by
  have HN := Lib.hid hn
  have HL := Lib.hid hl
  have HX := Lib.hid hx
  have hlx := hx.len
  obtain ⟨A, c, rfl⟩ := prs_form2 hn
  obtain ⟨A2, c2, rfl⟩ := prs_form2 hl
  obtain ⟨A3, c3, rfl⟩ := seq_form2 hx
  clear hn hl hx
  have h20 := ((winB_iff ns ls).1 hw).1.2
  have HSTEP := Lib.hid (fun m (h : m < l.length) => area_step hw hd h)
  have HBD := Lib.hid (fun m (h : m ≤ l.length) => area_bd hw hd m h)
  have HZ := Lib.hid (show areaL ns ls l 0 = 0 from rfl)
  clear hw hd
  generalize areaL ns ls l = S at *
  have HE := Lib.hid (fun (q : Nat) w h (hq : q < 2 * ls.length) => dEnds ls (.slice A ns.length c) (.slice A2 ls.length c2) q w h hq h20)
  unfold TwoIs at HE
  have H0 := Lib.hid (held_pair w (.slice A ns.length c) (.slice A2 ls.length c2) 96)
  go_enter Tryz.func142, Tryz.ntmps142
  go_wp2_with fail
  go_loopw [5, 14] (fun v i wr => ∃ m : Nat, m ≤ l.length ∧ i = .int .i64 m ∧ v = .int .i64 (S m) ∧ Held w wr [(w.heap.size, 0, .slice A ns.length c), (w.heap.size, 1, .slice A2 ls.length c2)]) (fun _ i _ => l.length - (intOf i).toNat)
  case atStart => exact ⟨0, Nat.zero_le _, rfl, by rw [HZ.out], H0.out⟩
  case round =>
    clear H0
    obtain ⟨m, hm, rfl, rfl, hh⟩ := hrel
    have H1 := Lib.hid hh; clear hh
    obtain ⟨A3', c3', he3, _, _, hxc⟩ := (HX.out.step H1.out.below).form
    simp only [Value.slice.injEq] at he3
    obtain ⟨rfl, -, -⟩ := he3
    have HXC := Lib.hid hxc; clear hxc
    by_cases hlt : m < l.length
    · obtain ⟨q, a, b, hq, hq2, ha, hb, ha2, hb2, oa, ob, hs⟩ := HSTEP.out m hlt
      obtain ⟨s0, s1⟩ := HBD.out m hm
      obtain ⟨s2, s3⟩ := HBD.out (m + 1) hlt
      obtain ⟨bx_, ox_, rfl, hblx, hcx⟩ := HXC.out m hlt
      rw [hq] at hcx
      obtain ⟨bn, on, c4, he, hbn, hcs⟩ := prs_at2 (HN.out.step H1.out.below) ha2
      injection he with he1 he2 he3
      subst he1
      clear he2 he3
      obtain ⟨q0, q1⟩ := hcs a ha2
      obtain ⟨q2, q3⟩ := hcs b hb2
      clear hcs
      obtain ⟨k1, k2, k3, k4⟩ := area_okb oa
      obtain ⟨l1, l2, l3, l4⟩ := area_okb ob
      obtain ⟨m1, m2⟩ := area_prod k1 k2 l3 l4
      obtain ⟨m3, m4⟩ := area_prod k3 k4 l1 l2
      generalize (atN ns a).x = ax at *
      generalize (atN ns a).y = ay at *
      generalize (atN ns b).x = bx at *
      generalize (atN ns b).y = by' at *
      have HS := Lib.hid hs; clear hs
      obtain ⟨p1, hp1⟩ : ∃ p : Int, ax * by' = p := ⟨_, rfl⟩
      obtain ⟨p2, hp2⟩ : ∃ p : Int, ay * bx = p := ⟨_, rfl⟩
      rw [hp1] at m1 m2
      rw [hp2] at m3 m4
      rw [hp1, hp2] at HS
      have e1 : IntKind.i64.wrap (ax * by') = p1 := by rw [hp1]; exact IntWalk.i64_in _ (by omega)
      have e2 : IntKind.i64.wrap (ay * bx) = p2 := by rw [hp2]; exact IntWalk.i64_in _ (by omega)
      generalize S m = s at *
      have hz1 : (m : Int) < (l.length : Int) := by omega
      have hz2 : (0 : Int) ≤ m := by omega
      have hz3 : (a : Int) < (ns.length : Int) := by omega
      have hz4 : (0 : Int) ≤ a := by omega
      have hz5 : (b : Int) < (ns.length : Int) := by omega
      have hz6 : (0 : Int) ≤ b := by omega
      clear hp1 hp2
      have e3 : IntKind.i64.wrap (p1 - p2) = p1 - p2 := IntWalk.i64_in _ (by omega)
      have e4 : IntKind.i64.wrap (s + (p1 - p2)) = s + (p1 - p2) := IntWalk.i64_in _ (by omega)
      have HEq := Lib.hid (fun w h => HE.out q w h hq2)
      rw [ha, hb] at HEq
      clear ha hb
      have H2 := Lib.hid (held_plus H1.out (gs := [(bn, on + a * 2, .int .i64 ax), (bn, on + a * 2 + 1, .int .i64 ay), (bn, on + b * 2, .int .i64 bx), (bn, on + b * 2 + 1, .int .i64 by')]) ⟨q0, q1, q2, q3, trivial⟩ ⟨hbn, hbn, hbn, hbn, trivial⟩)
      clear q0 q1 q2 q3
      obtain ⟨x0, x1, x2, x3, x4, x5, _⟩ := H2.out.1
      go_wp2_with fail
      refine (HEq.out _ (HL.out.step H2.out.below)).mono ?_
      rintro e w5 ⟨rfl, hb5⟩
      have H2 := Lib.hid (H2.out.step hb5); clear hb5 hcx x0 x1 x2 x3 x4 x5
      obtain ⟨x0, x1, x2, x3, x4, x5, _⟩ := H2.out.1
      go_wp2_with fail
      have HBH3 := Lib.hid H2.out.2.1
      refine regionW (fun W => Held _ W [(w.heap.size, 0, .slice (some ⟨bn, on, none⟩) ns.length c), (w.heap.size, 1, .slice A2 ls.length c2), (bn, on + a * 2, .int .i64 (ax)), (bn, on + a * 2 + 1, .int .i64 (ay)), (bn, on + b * 2, .int .i64 (bx)), (bn, on + b * 2 + 1, .int .i64 (by'))]) (by kernel_rfl) (Held.start H2.out.1 H2.out.2.1).drew ?_
      refine takeW (i := 0) (v := ?_) (Stable.held _ _) rfl (by kernel_rfl) (by kernel_rfl) (by kernel_rfl) (fun _ _ _ h => h) ?_ ?_
      rotate_left
      · first | (refine Or.inl ⟨by rfl, fun W hS => detR_value (w' := W) ?_ (Below.refl _ _)⟩; obtain ⟨x0, x1, x2, x3, x4, x5, _⟩ := hS.1; go_simp; first | done | with_reducible rfl) | fail
      simp only [Act.put, List.setIfInBounds_toArray, List.set_cons_zero, List.set_cons_succ]
      refine takeW (i := 1) (v := ?_) (Stable.held _ _) rfl (by kernel_rfl) (by kernel_rfl) (by kernel_rfl) (fun _ _ _ h => h) ?_ ?_
      rotate_left
      · first | (refine Or.inl ⟨by rfl, fun W hS => detR_value (w' := W) ?_ (Below.refl _ _)⟩; obtain ⟨x0, x1, x2, x3, x4, x5, _⟩ := hS.1; go_simp; first | done | with_reducible rfl) | fail
      simp only [Act.put, List.setIfInBounds_toArray, List.set_cons_zero, List.set_cons_succ]
      refine takeW (i := 2) (v := ?_) (Stable.held _ _) rfl (by kernel_rfl) (by kernel_rfl) (by kernel_rfl) (fun _ _ _ h => h) ?_ ?_
      rotate_left
      · first | (refine Or.inl ⟨by rfl, fun W hS => detR_value (w' := W) ?_ (Below.refl _ _)⟩; obtain ⟨x0, x1, x2, x3, x4, x5, _⟩ := hS.1; go_simp; first | done | with_reducible rfl) | fail
      simp only [Act.put, List.setIfInBounds_toArray, List.set_cons_zero, List.set_cons_succ]
      refine takeW (i := 3) (v := ?_) (Stable.held _ _) rfl (by kernel_rfl) (by kernel_rfl) (by kernel_rfl) (fun _ _ _ h => h) ?_ ?_
      rotate_left
      · first | (refine Or.inl ⟨by rfl, fun W hS => detR_value (w' := W) ?_ (Below.refl _ _)⟩; obtain ⟨x0, x1, x2, x3, x4, x5, _⟩ := hS.1; go_simp; first | done | with_reducible rfl) | fail
      simp only [Act.put, List.setIfInBounds_toArray, List.set_cons_zero, List.set_cons_succ]
      refine takeW (i := 4) (v := ?_) (Stable.held _ _) rfl (by kernel_rfl) (by kernel_rfl) (by kernel_rfl) (fun _ _ _ h => h) ?_ ?_
      rotate_left
      · first | (refine Or.inl ⟨by rfl, fun W hS => detR_value (w' := W) ?_ (Below.refl _ _)⟩; obtain ⟨x0, x1, x2, x3, x4, x5, _⟩ := hS.1; go_simp; first | done | with_reducible rfl) | fail
      simp only [Act.put, List.setIfInBounds_toArray, List.set_cons_zero, List.set_cons_succ]
      refine takeW (i := 5) (v := ?_) (Stable.held _ _) rfl (by kernel_rfl) (by kernel_rfl) (by kernel_rfl) (fun _ _ _ h => h) ?_ ?_
      rotate_left
      · first | (refine Or.inl ⟨by rfl, fun W hS => detR_value (w' := W) ?_ (Below.refl _ _)⟩; obtain ⟨x0, x1, x2, x3, x4, x5, _⟩ := hS.1; go_simp; first | done | with_reducible rfl) | fail
      simp only [Act.put, List.setIfInBounds_toArray, List.set_cons_zero, List.set_cons_succ]
      refine takeW (i := 6) (v := ?_) (Stable.held _ _) rfl (by kernel_rfl) (by kernel_rfl) (by kernel_rfl) (fun _ _ _ h => h) ?_ ?_
      rotate_left
      · first | (refine Or.inl ⟨by rfl, fun W hS => detR_value (w' := W) ?_ (Below.refl _ _)⟩; obtain ⟨x0, x1, x2, x3, x4, x5, _⟩ := hS.1; go_simp; first | done | with_reducible rfl) | fail
      simp only [Act.put, List.setIfInBounds_toArray, List.set_cons_zero, List.set_cons_succ]
      refine takeW (i := 7) (v := ?_) (Stable.held _ _) rfl (by kernel_rfl) (by kernel_rfl) (by kernel_rfl) (fun _ _ _ h => h) ?_ ?_
      rotate_left
      · first | (refine Or.inl ⟨by rfl, fun W hS => detR_value (w' := W) ?_ (Below.refl _ _)⟩; obtain ⟨x0, x1, x2, x3, x4, x5, _⟩ := hS.1; go_simp; first | done | with_reducible rfl) | fail
      simp only [Act.put, List.setIfInBounds_toArray, List.set_cons_zero, List.set_cons_succ]
      refine takeW (i := 8) (v := ?_) (Stable.held _ _) rfl (by kernel_rfl) (by kernel_rfl) (by kernel_rfl) (fun _ _ _ h => h) ?_ ?_
      rotate_left
      · first | (refine Or.inl ⟨by rfl, fun W hS => detR_value (w' := W) ?_ (Below.refl _ _)⟩; obtain ⟨x0, x1, x2, x3, x4, x5, _⟩ := hS.1; go_simp; first | done | with_reducible rfl) | fail
      simp only [Act.put, List.setIfInBounds_toArray, List.set_cons_zero, List.set_cons_succ]
      refine takeW (i := 9) (v := ?_) (Stable.held _ _) rfl (by kernel_rfl) (by kernel_rfl) (by kernel_rfl) (fun _ _ _ h => h) ?_ ?_
      rotate_left
      · first | (refine Or.inl ⟨by rfl, fun W hS => detR_value (w' := W) ?_ (Below.refl _ _)⟩; obtain ⟨x0, x1, x2, x3, x4, x5, _⟩ := hS.1; go_simp; first | done | with_reducible rfl) | fail
      simp only [Act.put, List.setIfInBounds_toArray, List.set_cons_zero, List.set_cons_succ]
      refine freeOr (i := 10) (j := 11) (by kernel_rfl) ?_ ?_
      · refine freeOp (i := 10) (NewB _ 115 2) (Stable.held _ _) (fun v => stable_newB _ _ _ v) rfl (by rfl) (fun W hS => freeR_new (T := 115) (n := 2) (cs := #[.int .i64 0, .int .i64 0]) (by go_simp; first | done | with_reducible rfl) hS.2.2.size rfl) (fun vf hex => ?_)
        clear hex
        simp only [Act.put, List.setIfInBounds_toArray, List.set_cons_zero, List.set_cons_succ]
        refine freeW (i := 11) (fun v => Two _ 115 (Sz 2) (Sz 2) vf v) (Stable.and (Stable.held _ _) (stable_newB _ _ _ _)) (fun v => stable_two _ _ _ _ _ _) rfl (by kernel_rfl) (by rfl) (fun W hS => freeR_after (T := 115) (n := 2) (cs := #[.int .i64 0, .int .i64 0]) (by go_simp; first | done | with_reducible rfl) hS.1.2.2.size rfl hS.2) (fun vs => ?_)
        simp only [Act.put, List.setIfInBounds_toArray, List.set_cons_zero, List.set_cons_succ]
        refine storeA (i := 12) #[.int .i64 ax, .int .i64 ay] (.inl rfl) rfl (by kernel_rfl) (by rfl) rfl (by rfl) (by rfl) HBH3.out rfl (by kernel_rfl) (by simp [Value.oneCell']) ?_
        simp only [Act.put, List.setIfInBounds_toArray, List.set_cons_zero, List.set_cons_succ]
        refine storeB (i := 13) #[.int .i64 bx, .int .i64 by'] (.inl rfl) rfl (by kernel_rfl) (by rfl) rfl (by rfl) (by rfl) HBH3.out rfl rfl (by kernel_rfl) (by simp [Value.oneCell']) ?_
        simp only [Act.put, List.setIfInBounds_toArray, List.set_cons_zero, List.set_cons_succ]
        refine doneW (by kernel_rfl) fun wH3 HG => ?_
        obtain ⟨⟨⟨⟨hH, _⟩, _⟩, _⟩, ht⟩ := HG
        have BWH3 := Lib.hid hH.2.2
        obtain ⟨b1H3, b2H3, rfl, rfl, hj⟩ := Held.joined2 H2.out hH ht
        have H3 := Lib.hid hj; clear hj hH ht HBH3
        try clear x0 x1 x2 x3 x4 x5
        obtain ⟨x0, x1, x2, x3, x4, x5, x6, x7, x8, x9, _⟩ := H3.out.1
        go_wp2_with fail
        exact ⟨⟨m + 1, by omega, by go_num, by rw [HS.out], H3.out.only (fun ⟨_, _, _, _, a, b, _⟩ => ⟨a, b, trivial⟩) (fun ⟨_, _, _, _, a, b, _⟩ => ⟨a, b, trivial⟩)⟩, by simp [intOf]; omega⟩
      · refine freeOp (i := 11) (NewB _ 115 2) (Stable.held _ _) (fun v => stable_newB _ _ _ v) rfl (by rfl) (fun W hS => freeR_new (T := 115) (n := 2) (cs := #[.int .i64 0, .int .i64 0]) (by go_simp; first | done | with_reducible rfl) hS.2.2.size rfl) (fun vf hex => ?_)
        clear hex
        simp only [Act.put, List.setIfInBounds_toArray, List.set_cons_zero, List.set_cons_succ]
        refine freeW (i := 10) (fun v => Two _ 115 (Sz 2) (Sz 2) v vf) (Stable.and (Stable.held _ _) (stable_newB _ _ _ _)) (fun v => stable_two _ _ _ _ _ _) rfl (by kernel_rfl) (by rfl) (fun W hS => freeR_before (T := 115) (n := 2) (cs := #[.int .i64 0, .int .i64 0]) (by go_simp; first | done | with_reducible rfl) hS.1.2.2.size rfl hS.2) (fun vs => ?_)
        simp only [Act.put, List.setIfInBounds_toArray, List.set_cons_zero, List.set_cons_succ]
        refine storeA (i := 12) #[.int .i64 ax, .int .i64 ay] (.inr rfl) rfl (by kernel_rfl) (by rfl) rfl (by rfl) (by rfl) HBH3.out rfl (by kernel_rfl) (by simp [Value.oneCell']) ?_
        simp only [Act.put, List.setIfInBounds_toArray, List.set_cons_zero, List.set_cons_succ]
        refine storeB (i := 13) #[.int .i64 bx, .int .i64 by'] (.inr rfl) rfl (by kernel_rfl) (by rfl) rfl (by rfl) (by rfl) HBH3.out rfl rfl (by kernel_rfl) (by simp [Value.oneCell']) ?_
        simp only [Act.put, List.setIfInBounds_toArray, List.set_cons_zero, List.set_cons_succ]
        refine doneW (by kernel_rfl) fun wH3 HG => ?_
        obtain ⟨⟨⟨⟨hH, _⟩, _⟩, _⟩, ht⟩ := HG
        have BWH3 := Lib.hid hH.2.2
        obtain ⟨b1H3, b2H3, rfl, rfl, hj⟩ := Held.joined2 H2.out hH ht
        have H3 := Lib.hid hj; clear hj hH ht HBH3
        try clear x0 x1 x2 x3 x4 x5
        obtain ⟨x0, x1, x2, x3, x4, x5, x6, x7, x8, x9, _⟩ := H3.out.1
        go_wp2_with fail
        exact ⟨⟨m + 1, by omega, by go_num, by rw [HS.out], H3.out.only (fun ⟨_, _, _, _, a, b, _⟩ => ⟨a, b, trivial⟩) (fun ⟨_, _, _, _, a, b, _⟩ => ⟨a, b, trivial⟩)⟩, by simp [intOf]; omega⟩
    · obtain rfl : m = l.length := by omega
      obtain ⟨x0, x1, _⟩ := H1.out.1
      go_wp2_with fail
      go_ret
      exact ⟨rfl, H1.out.below⟩

set_option maxRecDepth 100000 in
set_option maxHeartbeats 4000000 in
theorem specAlong (ns ls : List Nd) (vn vl vx : Value) (l : List Int) (w : World) (hn : Prs w vn ns) (hl : Prs w vl ls) (hx : Seq w vx l) (hw : winB ns ls = true) (hd : DartsOf ls l) (h40 : l.length ≤ 40) :
    Calls Tryz.prog 71 #[.agg #[vn, vl], vx] w (IntIs (areaL ns ls l l.length) w) := by
  have HN := Lib.hid hn
  have HL := Lib.hid hl
  have HX := Lib.hid hx
  have hlx := hx.len
  obtain ⟨A, c, rfl⟩ := prs_form2 hn
  obtain ⟨A2, c2, rfl⟩ := prs_form2 hl
  obtain ⟨A3, c3, rfl⟩ := seq_form2 hx
  clear hn hl hx
  have h20 := ((winB_iff ns ls).1 hw).1.2
  have HSTEP := Lib.hid (fun m (h : m < l.length) => area_step hw hd h)
  have HBD := Lib.hid (fun m (h : m ≤ l.length) => area_bd hw hd m h)
  have HZ := Lib.hid (show areaL ns ls l 0 = 0 from rfl)
  clear hw hd
  generalize areaL ns ls l = S at *
  have HE := Lib.hid (fun (q : Nat) w h (hq : q < 2 * ls.length) => sEnds ls (.slice A ns.length c) (.slice A2 ls.length c2) q w h hq h20)
  unfold TwoIs at HE
  have H0 := Lib.hid (held_pair w (.slice A ns.length c) (.slice A2 ls.length c2) 32)
  go_enter Tryz.func71, Tryz.ntmps71
  go_wp2_with fail
  go_loopw [5, 6] (fun v i wr => ∃ m : Nat, m ≤ l.length ∧ i = .int .i64 m ∧ v = .int .i64 (S m) ∧ Held w wr [(w.heap.size, 0, .slice A ns.length c), (w.heap.size, 1, .slice A2 ls.length c2)]) (fun _ i _ => l.length - (intOf i).toNat)
  case atStart => exact ⟨0, Nat.zero_le _, rfl, by rw [HZ.out], H0.out⟩
  case round =>
    clear H0
    obtain ⟨m, hm, rfl, rfl, hh⟩ := hrel
    have H1 := Lib.hid hh; clear hh
    obtain ⟨A3', c3', he3, _, _, hxc⟩ := (HX.out.step H1.out.below).form
    simp only [Value.slice.injEq] at he3
    obtain ⟨rfl, -, -⟩ := he3
    have HXC := Lib.hid hxc; clear hxc
    by_cases hlt : m < l.length
    · obtain ⟨q, a, b, hq, hq2, ha, hb, ha2, hb2, oa, ob, hs⟩ := HSTEP.out m hlt
      obtain ⟨s0, s1⟩ := HBD.out m hm
      obtain ⟨s2, s3⟩ := HBD.out (m + 1) hlt
      obtain ⟨bx_, ox_, rfl, hblx, hcx⟩ := HXC.out m hlt
      rw [hq] at hcx
      obtain ⟨bn, on, c4, he, hbn, hcs⟩ := prs_at2 (HN.out.step H1.out.below) ha2
      injection he with he1 he2 he3
      subst he1
      clear he2 he3
      obtain ⟨q0, q1⟩ := hcs a ha2
      obtain ⟨q2, q3⟩ := hcs b hb2
      clear hcs
      obtain ⟨k1, k2, k3, k4⟩ := area_okb oa
      obtain ⟨l1, l2, l3, l4⟩ := area_okb ob
      obtain ⟨m1, m2⟩ := area_prod k1 k2 l3 l4
      obtain ⟨m3, m4⟩ := area_prod k3 k4 l1 l2
      generalize (atN ns a).x = ax at *
      generalize (atN ns a).y = ay at *
      generalize (atN ns b).x = bx at *
      generalize (atN ns b).y = by' at *
      have HS := Lib.hid hs; clear hs
      obtain ⟨p1, hp1⟩ : ∃ p : Int, ax * by' = p := ⟨_, rfl⟩
      obtain ⟨p2, hp2⟩ : ∃ p : Int, ay * bx = p := ⟨_, rfl⟩
      rw [hp1] at m1 m2
      rw [hp2] at m3 m4
      rw [hp1, hp2] at HS
      have e1 : IntKind.i64.wrap (ax * by') = p1 := by rw [hp1]; exact IntWalk.i64_in _ (by omega)
      have e2 : IntKind.i64.wrap (ay * bx) = p2 := by rw [hp2]; exact IntWalk.i64_in _ (by omega)
      generalize S m = s at *
      have hz1 : (m : Int) < (l.length : Int) := by omega
      have hz2 : (0 : Int) ≤ m := by omega
      have hz3 : (a : Int) < (ns.length : Int) := by omega
      have hz4 : (0 : Int) ≤ a := by omega
      have hz5 : (b : Int) < (ns.length : Int) := by omega
      have hz6 : (0 : Int) ≤ b := by omega
      clear hp1 hp2
      have e3 : IntKind.i64.wrap (s + p1) = s + p1 := IntWalk.i64_in _ (by omega)
      have e4 : IntKind.i64.wrap (s + p1 - p2) = s + p1 - p2 := IntWalk.i64_in _ (by omega)
      have HEq := Lib.hid (fun w h => HE.out q w h hq2)
      rw [ha, hb] at HEq
      clear ha hb
      have H2 := Lib.hid (held_plus H1.out (gs := [(bx_, ox_ + m, .int .i64 (q : Int)), (bn, on + a * 2, .int .i64 ax), (bn, on + a * 2 + 1, .int .i64 ay), (bn, on + b * 2, .int .i64 bx), (bn, on + b * 2 + 1, .int .i64 by')]) ⟨hcx, q0, q1, q2, q3, trivial⟩ ⟨hblx, hbn, hbn, hbn, hbn, trivial⟩)
      clear q0 q1 q2 q3 hcx
      obtain ⟨x0, x1, x2, x3, x4, x5, x6, _⟩ := H2.out.1
      go_wp2_with fail
      clear x0 x1 x2 x3 x4 x5 x6
      refine regionD (S := fun W => Held _ W [(w.heap.size, 0, .slice (some ⟨bn, on, none⟩) ns.length c), (w.heap.size, 1, .slice A2 ls.length c2), (bx_, ox_ + m, .int .i64 (q)), (bn, on + a * 2, .int .i64 (ax)), (bn, on + a * 2 + 1, .int .i64 (ay)), (bn, on + b * 2, .int .i64 (bx)), (bn, on + b * 2 + 1, .int .i64 (by'))]) (by kernel_rfl) H2.out.drew ?_
      iterate 11 (refine takeT (v := ?_) rfl (by kernel_rfl) (by kernel_rfl) (by kernel_rfl) ?_ ?_; rotate_left; (first | (refine Or.inr ⟨by rfl, ?_⟩; with_reducible rfl) | (refine Or.inl ⟨by rfl, fun W hS => detRes_value (w' := W) ?_ hS⟩; obtain ⟨x0, x1, x2, x3, x4, x5, x6, _⟩ := hS.1; go_simp; first | done | with_reducible rfl) | (refine Or.inl ⟨by rfl, fun W hS => ?_⟩; refine detRes_call (w' := W) (f := ?_) (args := ?_) ?_ ?_; rotate_left 2; (go_simp; (refine ⟨?_, ?_⟩ <;> with_reducible rfl)); (first | (with_reducible refine (HEq.out _ (HL.out.step hS.below)).mono ?_) | fail); (first | (rintro e wn ⟨rfl, hb⟩; refine ⟨?_, hS.step hb⟩; with_reducible rfl) | (rintro e wn ⟨rfl, rfl⟩; refine ⟨?_, hS⟩; with_reducible rfl) | fail)) | fail); (simp only [Act.put, List.setIfInBounds_toArray, List.set_cons_zero, List.set_cons_succ]))
      refine doneD (by kernel_rfl) fun wH3 HS => ?_
      have H3 := Lib.hid HS; clear HS
      try clear x0 x1 x2 x3 x4 x5 x6
      obtain ⟨x0, x1, x2, x3, x4, x5, x6, _⟩ := H3.out.1
      go_wp2_with fail
      refine regionD (S := fun W => Held _ W [(w.heap.size, 0, .slice (some ⟨bn, on, none⟩) ns.length c), (w.heap.size, 1, .slice A2 ls.length c2), (bx_, ox_ + m, .int .i64 (q)), (bn, on + a * 2, .int .i64 (ax)), (bn, on + a * 2 + 1, .int .i64 (ay)), (bn, on + b * 2, .int .i64 (bx)), (bn, on + b * 2 + 1, .int .i64 (by'))]) (by kernel_rfl) H3.out.drew ?_
      iterate 30 (refine takeT (v := ?_) rfl (by kernel_rfl) (by kernel_rfl) (by kernel_rfl) ?_ ?_; rotate_left; (first | (refine Or.inr ⟨by rfl, ?_⟩; with_reducible rfl) | (refine Or.inl ⟨by rfl, fun W hS => detRes_value (w' := W) ?_ hS⟩; obtain ⟨x0, x1, x2, x3, x4, x5, x6, _⟩ := hS.1; go_simp; first | done | with_reducible rfl) | fail); (simp only [Act.put, List.setIfInBounds_toArray, List.set_cons_zero, List.set_cons_succ]))
      refine doneD (by kernel_rfl) fun wH4 HS => ?_
      have H4 := Lib.hid HS; clear HS
      try clear x0 x1 x2 x3 x4 x5 x6
      obtain ⟨x0, x1, x2, x3, x4, x5, x6, _⟩ := H4.out.1
      go_wp2_with fail
      exact ⟨⟨m + 1, by omega, by go_num, by rw [HS.out]; congr 1; omega, H4.out.only (fun ⟨a, b, _⟩ => ⟨a, b, trivial⟩) (fun ⟨a, b, _⟩ => ⟨a, b, trivial⟩)⟩, by simp [intOf]; omega⟩
    · obtain rfl : m = l.length := by omega
      obtain ⟨x0, x1, _⟩ := H1.out.1
      go_wp2_with fail
      go_ret
      exact ⟨rfl, H1.out.below⟩

theorem areaL_zero (ns ls : List Nd) (l : List Int) (h : l.length = 0) : areaL ns ls l l.length = 0 := by rw [h]; rfl

noncomputable def areaI (ns ls : List Nd) (d : Int) : Int := areaL ns ls (walkI ns ls d) (walkI ns ls d).length
end Go.Proofs.YtepacoacalhdcaaGreat

namespace Go.Proofs.YtepacoacalhdcaaGreat
open Go.RowKit
set_option linter.unusedVariables false
set_option linter.unusedSimpArgs false

theorem implAlong0 (A A2 A3 : Option Addr) (n c n2 c2 c3 : Nat) (w : World) :
    Calls Tryz.prog 142 #[.agg #[.slice A n c, .slice A2 n2 c2], .slice A3 0 c3] w (IntIs 0 w) := by
  go_enter Tryz.func142, Tryz.ntmps142
  go_wp2_with fail
  refine wp_loop_rounds 1 ?_
  rw [rounds_succ]
  go_wp2_with fail
  go_ret
  exact ⟨rfl, (Below.refl _ _).alloc (Nat.le_refl _) _⟩

theorem specAlong0 (A A2 A3 : Option Addr) (n c n2 c2 c3 : Nat) (w : World) :
    Calls Tryz.prog 71 #[.agg #[.slice A n c, .slice A2 n2 c2], .slice A3 0 c3] w (IntIs 0 w) := by
  go_enter Tryz.func71, Tryz.ntmps71
  go_wp2_with fail
  refine wp_loop_rounds 1 ?_
  rw [rounds_succ]
  go_wp2_with fail
  go_ret
  exact ⟨rfl, (Below.refl _ _).alloc (Nat.le_refl _) _⟩

theorem walk_darts {ns ls : List Nd} {d : Int} (h : (walkI ns ls d).length ≠ 0) : winB ns ls = true ∧ DartsOf ls (walkI ns ls d) :=
  ⟨(walkI_at (show 0 < (walkI ns ls d).length by omega)).1, fun i hi => (walkI_at hi).2⟩

theorem implAlongI (ns ls : List Nd) (vn vl vx : Value) (d : Int) (w : World) (hn : Prs w vn ns) (hl : Prs w vl ls) (hx : Seq w vx (walkI ns ls d)) :
    Calls Tryz.prog 142 #[.agg #[vn, vl], vx] w (IntIs (areaI ns ls d) w) := by
  by_cases h : (walkI ns ls d).length = 0
  · obtain ⟨A, c, rfl⟩ := prs_form2 hn
    obtain ⟨A2, c2, rfl⟩ := prs_form2 hl
    obtain ⟨A3, c3, rfl⟩ := seq_form2 hx
    rw [show areaI ns ls d = 0 from areaL_zero ns ls _ h, h]
    exact implAlong0 _ _ _ _ _ _ _ _ w
  · obtain ⟨hw, hd⟩ := walk_darts h
    exact implAlong ns ls vn vl vx _ w hn hl hx hw hd (walkI_len ns ls d)

theorem specAlongI (ns ls : List Nd) (vn vl vx : Value) (d : Int) (w : World) (hn : Prs w vn ns) (hl : Prs w vl ls) (hx : Seq w vx (walkI ns ls d)) :
    Calls Tryz.prog 71 #[.agg #[vn, vl], vx] w (IntIs (areaI ns ls d) w) := by
  by_cases h : (walkI ns ls d).length = 0
  · obtain ⟨A, c, rfl⟩ := prs_form2 hn
    obtain ⟨A2, c2, rfl⟩ := prs_form2 hl
    obtain ⟨A3, c3, rfl⟩ := seq_form2 hx
    rw [show areaI ns ls d = 0 from areaL_zero ns ls _ h, h]
    exact specAlong0 _ _ _ _ _ _ _ _ w
  · obtain ⟨hw, hd⟩ := walk_darts h
    exact specAlong ns ls vn vl vx _ w hn hl hx hw hd (walkI_len ns ls d)

end Go.Proofs.YtepacoacalhdcaaGreat
