/-
  The middle of the glass, of the program and of the model.
-/
import Derived.Test.YtepacoacalhdcaaGreatG12
import Derived.Test.YtepacoacalhdcaaGreatG14
import Derived.Test.YtepacoacalhdcaaGreatWalkS
import Derived.Test.YtepacoacalhdcaaGreatG7
namespace Go.Proofs.YtepacoacalhdcaaGreat
open Go.RowKit
set_option linter.unusedVariables false
set_option linter.unusedSimpArgs false

/-- Three ints are returned. -/
def ThreeIs (a b c : Int) (w : World) (e : Ending) (w' : World) : Prop := e = .returned (.tuple #[.int .i64 a, .int .i64 b, .int .i64 c]) ∧ Below w.heap.size w w'

def momL (g : Nd → Int) (ns ls : List Nd) (l : List Int) : Nat → Int
  | 0 => 0
  | n + 1 => momL g ns ls l n - (g (atI ns (dF ls (atZ l n).toNat)) + g (atI ns (dT ls (atZ l n).toNat))) * ((atI ns (dF ls (atZ l n).toNat)).x * (atI ns (dT ls (atZ l n).toNat)).y - (atI ns (dF ls (atZ l n).toNat)).y * (atI ns (dT ls (atZ l n).toNat)).x)

/-- Along X or along Y. -/
def Axis (g : Nd → Int) : Prop := ∀ n, okB n = true → 0 ≤ g n ∧ g n ≤ 20

theorem axisX : Axis Nd.x := fun n h => ⟨(area_okb h).1, (area_okb h).2.1⟩

theorem axisY : Axis Nd.y := fun n h => ⟨(area_okb h).2.2.1, (area_okb h).2.2.2⟩

theorem mom_prod {s c : Int} (h1 : 0 ≤ s) (h2 : s ≤ 40) (h3 : -400 ≤ c) (h4 : c ≤ 400) : -16000 ≤ s * c ∧ s * c ≤ 16000 := by
  have p : s * c ≤ s * 400 := Int.mul_le_mul_of_nonneg_left h4 h1
  have q : s * (-400) ≤ s * c := Int.mul_le_mul_of_nonneg_left h3 h1
  omega

theorem mom_step {g : Nd → Int} {ns ls : List Nd} {l : List Int} (hw : winB ns ls = true) (hl : DartsOf ls l) {m : Nat} (hm : m < l.length) : ∃ q a b : Nat, atZ l m = q ∧ q < 2 * ls.length ∧ dF ls q = a ∧ dT ls q = b ∧ a < ns.length ∧ b < ns.length ∧ okB (atN ns a) = true ∧ okB (atN ns b) = true ∧
    momL g ns ls l (m + 1) = momL g ns ls l m - (g (atN ns a) + g (atN ns b)) * ((atN ns a).x * (atN ns b).y - (atN ns a).y * (atN ns b).x) := by
  obtain ⟨q, hq, hq2⟩ := hl m hm
  obtain ⟨a, b, ha, hb, ha2, hb2, _⟩ := dart_nat hw hq2
  refine ⟨q, a, b, hq, hq2, ha, hb, ha2, hb2, ((((winB_iff ns ls).1 hw).2.1 a ha2).1), ((((winB_iff ns ls).1 hw).2.1 b hb2).1), ?_⟩
  rw [momL, hq, Int.toNat_natCast, ha, hb]
  rfl

theorem mom_bd {g : Nd → Int} {ns ls : List Nd} {l : List Int} (hg : Axis g) (hw : winB ns ls = true) (hl : DartsOf ls l) : ∀ m, m ≤ l.length → -(16000 * (m : Int)) ≤ momL g ns ls l m ∧ momL g ns ls l m ≤ 16000 * m
  | 0, _ => by simp [momL]
  | m + 1, h => by
    obtain ⟨q, a, b, -, -, -, -, -, -, oa, ob, e⟩ := mom_step (g := g) hw hl (show m < l.length by omega)
    have ih := mom_bd hg hw hl m (by omega)
    obtain ⟨a1, a2, a3, a4⟩ := area_okb oa
    obtain ⟨b1, b2, b3, b4⟩ := area_okb ob
    have p := area_prod a1 a2 b3 b4
    have p2 := area_prod a3 a4 b1 b2
    have ga := hg _ oa
    have gb := hg _ ob
    have r := mom_prod (s := g (atN ns a) + g (atN ns b)) (c := (atN ns a).x * (atN ns b).y - (atN ns a).y * (atN ns b).x) (by omega) (by omega) (by omega) (by omega)
    rw [e]
    omega

theorem implMidX (n : Nd) (w : World) : Calls Tryz.prog 92 #[n.val] w (IntIs n.x w) := by
  obtain ⟨x, y⟩ := n
  unfold Nd.val
  go_enter Tryz.func92, Tryz.ntmps92
  go_wp2_with fail
  go_ret
  exact ⟨rfl, below_alloc _ _⟩

theorem implMidY (n : Nd) (w : World) : Calls Tryz.prog 93 #[n.val] w (IntIs n.y w) := by
  obtain ⟨x, y⟩ := n
  unfold Nd.val
  go_enter Tryz.func93, Tryz.ntmps93
  go_wp2_with fail
  go_ret
  exact ⟨rfl, below_alloc _ _⟩


set_option maxRecDepth 100000 in
set_option maxHeartbeats 4000000 in
theorem implSumX (ns ls : List Nd) (vn vl vx : Value) (l : List Int) (w : World) (hn : Prs w vn ns) (hl : Prs w vl ls) (hx : Seq w vx l) (hw : winB ns ls = true) (hd : DartsOf ls l) (h40 : l.length ≤ 40) :
    Calls Tryz.prog 94 #[.agg #[.func (.func 92) #[] #[]], .agg #[vn, vl], vx] w (IntIs (momL Nd.x ns ls l l.length) w) := by
  have HN := Lib.hid hn
  have HL := Lib.hid hl
  have HX := Lib.hid hx
  have hlx := hx.len
  obtain ⟨A, c, rfl⟩ := prs_form2 hn
  obtain ⟨A2, c2, rfl⟩ := prs_form2 hl
  obtain ⟨A3, c3, rfl⟩ := seq_form2 hx
  clear hn hl hx
  have h20 := ((winB_iff ns ls).1 hw).1.2
  have HSTEP := Lib.hid (fun m (h : m < l.length) => mom_step (g := Nd.x) hw hd h)
  have HBD := Lib.hid (fun m (h : m ≤ l.length) => mom_bd axisX hw hd m h)
  have HZ := Lib.hid (show momL Nd.x ns ls l 0 = 0 from rfl)
  clear hw hd
  generalize momL Nd.x ns ls l = S at *
  have HE := Lib.hid (fun (q : Nat) w h (hq : q < 2 * ls.length) => dEnds ls (.slice A ns.length c) (.slice A2 ls.length c2) q w h hq h20)
  unfold TwoIs at HE
  have HF := Lib.hid (fun n w => implMidX n w)
  unfold Nd.val at HF
  have H0 := Lib.hid (((Held.none_ w).new2 w.heap.size rfl [.func (.func 92) #[] #[]] 119).new2 (w.heap.size + 1) (by simp) [.slice A ns.length c, .slice A2 ls.length c2] 96)
  simp only [newFs, List.cons_append, List.nil_append, List.append_nil] at H0
  go_enter Tryz.func94, Tryz.ntmps94
  go_wp2_with fail
  go_loopw [7, 16] (fun v i wr => ∃ m : Nat, m ≤ l.length ∧ i = .int .i64 m ∧ v = .int .i64 (S m) ∧ Held w wr [(w.heap.size + 1, 0, .slice A ns.length c), (w.heap.size + 1, 1, .slice A2 ls.length c2), (w.heap.size, 0, .func (.func 92) #[] #[])]) (fun _ i _ => l.length - (intOf i).toNat)
  case atStart => exact ⟨0, Nat.zero_le _, rfl, by rw [HZ.out], H0.out⟩
  case round =>
    clear H0
    obtain ⟨m, hm, rfl, rfl, hh⟩ := hrel
    have H1 := Lib.hid hh; clear hh
    obtain ⟨A3', c3', he3, _, _, hxc⟩ := (HX.out.step H1.out.below).form
    simp only [Value.slice.injEq] at he3
    obtain ⟨rfl, -, -⟩ := he3
    have HXC := Lib.hid hxc; clear hxc
    by_cases hlt : m < l.length
    · obtain ⟨q, a, b, hq, hq2, ha, hb, ha2, hb2, oa, ob, hs⟩ := HSTEP.out m hlt
      obtain ⟨s0, s1⟩ := HBD.out m hm
      obtain ⟨s2, s3⟩ := HBD.out (m + 1) hlt
      obtain ⟨bx_, ox_, rfl, hblx, hcx⟩ := HXC.out m hlt
      rw [hq] at hcx
      obtain ⟨bn, on, c4, he, hbn, hcs⟩ := prs_at2 (HN.out.step H1.out.below) ha2
      injection he with he1 he2 he3
      subst he1
      clear he2 he3
      obtain ⟨q0, q1⟩ := hcs a ha2
      obtain ⟨q2, q3⟩ := hcs b hb2
      clear hcs
      obtain ⟨k1, k2, k3, k4⟩ := area_okb oa
      obtain ⟨l1, l2, l3, l4⟩ := area_okb ob
      obtain ⟨m1, m2⟩ := area_prod k1 k2 l3 l4
      obtain ⟨m3, m4⟩ := area_prod k3 k4 l1 l2
      have HFA := Lib.hid (fun w => HF.out (atN ns a) w)
      have HFB := Lib.hid (fun w => HF.out (atN ns b) w)
      generalize (atN ns a).x = ax at *
      generalize (atN ns a).y = ay at *
      generalize (atN ns b).x = bx at *
      generalize (atN ns b).y = by' at *
      have HS := Lib.hid hs; clear hs
      obtain ⟨p1, hp1⟩ : ∃ p : Int, ax * by' = p := ⟨_, rfl⟩
      obtain ⟨p2, hp2⟩ : ∃ p : Int, ay * bx = p := ⟨_, rfl⟩
      rw [hp1] at m1 m2
      rw [hp2] at m3 m4
      rw [hp1, hp2] at HS
      obtain ⟨r1, r2⟩ := mom_prod (s := ax + bx) (c := p1 - p2) (by omega) (by omega) (by omega) (by omega)
      obtain ⟨pr, hpr⟩ : ∃ p : Int, (ax + bx) * (p1 - p2) = p := ⟨_, rfl⟩
      rw [hpr] at r1 r2 HS
      have e1 : IntKind.i64.wrap (ax * by') = p1 := by rw [hp1]; exact IntWalk.i64_in _ (by omega)
      have e2 : IntKind.i64.wrap (ay * bx) = p2 := by rw [hp2]; exact IntWalk.i64_in _ (by omega)
      have e5 : IntKind.i64.wrap ((ax + bx) * (p1 - p2)) = pr := by rw [hpr]; exact IntWalk.i64_in _ (by omega)
      have e3 : IntKind.i64.wrap (p1 - p2) = p1 - p2 := IntWalk.i64_in _ (by omega)
      have e4 : IntKind.i64.wrap (ax + bx) = ax + bx := IntWalk.i64_in _ (by omega)
      generalize S m = s at *
      have e6 : IntKind.i64.wrap (s - pr) = s - pr := IntWalk.i64_in _ (by omega)
      have hz1 : (m : Int) < (l.length : Int) := by omega
      have hz2 : (0 : Int) ≤ m := by omega
      have hz3 : (a : Int) < (ns.length : Int) := by omega
      have hz4 : (0 : Int) ≤ a := by omega
      have hz5 : (b : Int) < (ns.length : Int) := by omega
      have hz6 : (0 : Int) ≤ b := by omega
      clear hp1 hp2 hpr
      have HEq := Lib.hid (fun w h => HE.out q w h hq2)
      rw [ha, hb] at HEq
      clear ha hb
      have H2 := Lib.hid (held_plus H1.out (gs := [(bn, on + a * 2, .int .i64 ax), (bn, on + a * 2 + 1, .int .i64 ay), (bn, on + b * 2, .int .i64 bx), (bn, on + b * 2 + 1, .int .i64 by')]) ⟨q0, q1, q2, q3, trivial⟩ ⟨hbn, hbn, hbn, hbn, trivial⟩)
      clear q0 q1 q2 q3
      obtain ⟨x0, x1, x2, x3, x4, x5, x6, _⟩ := H2.out.1
      go_wp2_with fail
      refine (HEq.out _ (HL.out.step H2.out.below)).mono ?_
      rintro e w5 ⟨rfl, hb5⟩
      have H2 := Lib.hid (H2.out.step hb5); clear hb5 hcx x0 x1 x2 x3 x4 x5 x6
      obtain ⟨x0, x1, x2, x3, x4, x5, x6, _⟩ := H2.out.1
      go_wp2_with fail
      have HBH3 := Lib.hid H2.out.2.1
      refine regionW (fun W => Held _ W [(w.heap.size + 1, 0, .slice (some ⟨bn, on, none⟩) ns.length c), (w.heap.size + 1, 1, .slice A2 ls.length c2), (w.heap.size, 0, .func (.func 92) #[] #[]), (bn, on + a * 2, .int .i64 (ax)), (bn, on + a * 2 + 1, .int .i64 (ay)), (bn, on + b * 2, .int .i64 (bx)), (bn, on + b * 2 + 1, .int .i64 (by'))]) (by kernel_rfl) (Held.start H2.out.1 H2.out.2.1).drew ?_
      refine takeW (i := 0) (v := ?_) (Stable.held _ _) rfl (by kernel_rfl) (by kernel_rfl) (by kernel_rfl) (fun _ _ _ h => h) ?_ ?_
      rotate_left
      · first | (refine Or.inl ⟨by rfl, fun W hS => detR_value (w' := W) ?_ (Below.refl _ _)⟩; obtain ⟨x0, x1, x2, x3, x4, x5, x6, _⟩ := hS.1; go_simp; first | done | with_reducible rfl) | fail
      simp only [Act.put, List.setIfInBounds_toArray, List.set_cons_zero, List.set_cons_succ]
      refine takeW (i := 1) (v := ?_) (Stable.held _ _) rfl (by kernel_rfl) (by kernel_rfl) (by kernel_rfl) (fun _ _ _ h => h) ?_ ?_
      rotate_left
      · first | (refine Or.inl ⟨by rfl, fun W hS => detR_value (w' := W) ?_ (Below.refl _ _)⟩; obtain ⟨x0, x1, x2, x3, x4, x5, x6, _⟩ := hS.1; go_simp; first | done | with_reducible rfl) | fail
      simp only [Act.put, List.setIfInBounds_toArray, List.set_cons_zero, List.set_cons_succ]
      refine takeW (i := 2) (v := ?_) (Stable.held _ _) rfl (by kernel_rfl) (by kernel_rfl) (by kernel_rfl) (fun _ _ _ h => h) ?_ ?_
      rotate_left
      · first | (refine Or.inl ⟨by rfl, fun W hS => detR_value (w' := W) ?_ (Below.refl _ _)⟩; obtain ⟨x0, x1, x2, x3, x4, x5, x6, _⟩ := hS.1; go_simp; first | done | with_reducible rfl) | fail
      simp only [Act.put, List.setIfInBounds_toArray, List.set_cons_zero, List.set_cons_succ]
      refine takeW (i := 3) (v := ?_) (Stable.held _ _) rfl (by kernel_rfl) (by kernel_rfl) (by kernel_rfl) (fun _ _ _ h => h) ?_ ?_
      rotate_left
      · first | (refine Or.inl ⟨by rfl, fun W hS => detR_value (w' := W) ?_ (Below.refl _ _)⟩; obtain ⟨x0, x1, x2, x3, x4, x5, x6, _⟩ := hS.1; go_simp; first | done | with_reducible rfl) | fail
      simp only [Act.put, List.setIfInBounds_toArray, List.set_cons_zero, List.set_cons_succ]
      refine takeW (i := 4) (v := ?_) (Stable.held _ _) rfl (by kernel_rfl) (by kernel_rfl) (by kernel_rfl) (fun _ _ _ h => h) ?_ ?_
      rotate_left
      · first | (refine Or.inl ⟨by rfl, fun W hS => detR_value (w' := W) ?_ (Below.refl _ _)⟩; obtain ⟨x0, x1, x2, x3, x4, x5, x6, _⟩ := hS.1; go_simp; first | done | with_reducible rfl) | fail
      simp only [Act.put, List.setIfInBounds_toArray, List.set_cons_zero, List.set_cons_succ]
      refine takeW (i := 5) (v := ?_) (Stable.held _ _) rfl (by kernel_rfl) (by kernel_rfl) (by kernel_rfl) (fun _ _ _ h => h) ?_ ?_
      rotate_left
      · first | (refine Or.inl ⟨by rfl, fun W hS => detR_value (w' := W) ?_ (Below.refl _ _)⟩; obtain ⟨x0, x1, x2, x3, x4, x5, x6, _⟩ := hS.1; go_simp; first | done | with_reducible rfl) | fail
      simp only [Act.put, List.setIfInBounds_toArray, List.set_cons_zero, List.set_cons_succ]
      refine takeW (i := 6) (v := ?_) (Stable.held _ _) rfl (by kernel_rfl) (by kernel_rfl) (by kernel_rfl) (fun _ _ _ h => h) ?_ ?_
      rotate_left
      · first | (refine Or.inl ⟨by rfl, fun W hS => detR_value (w' := W) ?_ (Below.refl _ _)⟩; obtain ⟨x0, x1, x2, x3, x4, x5, x6, _⟩ := hS.1; go_simp; first | done | with_reducible rfl) | fail
      simp only [Act.put, List.setIfInBounds_toArray, List.set_cons_zero, List.set_cons_succ]
      refine takeW (i := 7) (v := ?_) (Stable.held _ _) rfl (by kernel_rfl) (by kernel_rfl) (by kernel_rfl) (fun _ _ _ h => h) ?_ ?_
      rotate_left
      · first | (refine Or.inl ⟨by rfl, fun W hS => detR_value (w' := W) ?_ (Below.refl _ _)⟩; obtain ⟨x0, x1, x2, x3, x4, x5, x6, _⟩ := hS.1; go_simp; first | done | with_reducible rfl) | fail
      simp only [Act.put, List.setIfInBounds_toArray, List.set_cons_zero, List.set_cons_succ]
      refine takeW (i := 8) (v := ?_) (Stable.held _ _) rfl (by kernel_rfl) (by kernel_rfl) (by kernel_rfl) (fun _ _ _ h => h) ?_ ?_
      rotate_left
      · first | (refine Or.inl ⟨by rfl, fun W hS => detR_value (w' := W) ?_ (Below.refl _ _)⟩; obtain ⟨x0, x1, x2, x3, x4, x5, x6, _⟩ := hS.1; go_simp; first | done | with_reducible rfl) | fail
      simp only [Act.put, List.setIfInBounds_toArray, List.set_cons_zero, List.set_cons_succ]
      refine takeW (i := 9) (v := ?_) (Stable.held _ _) rfl (by kernel_rfl) (by kernel_rfl) (by kernel_rfl) (fun _ _ _ h => h) ?_ ?_
      rotate_left
      · first | (refine Or.inl ⟨by rfl, fun W hS => detR_value (w' := W) ?_ (Below.refl _ _)⟩; obtain ⟨x0, x1, x2, x3, x4, x5, x6, _⟩ := hS.1; go_simp; first | done | with_reducible rfl) | fail
      simp only [Act.put, List.setIfInBounds_toArray, List.set_cons_zero, List.set_cons_succ]
      refine freeOr (i := 10) (j := 11) (by kernel_rfl) ?_ ?_
      · refine freeOp (i := 10) (NewB _ 115 2) (Stable.held _ _) (fun v => stable_newB _ _ _ v) rfl (by rfl) (fun W hS => freeR_new (T := 115) (n := 2) (cs := #[.int .i64 0, .int .i64 0]) (by go_simp; first | done | with_reducible rfl) hS.2.2.size rfl) (fun vf hex => ?_)
        clear hex
        simp only [Act.put, List.setIfInBounds_toArray, List.set_cons_zero, List.set_cons_succ]
        refine freeW (i := 11) (fun v => Two _ 115 (Sz 2) (Sz 2) vf v) (Stable.and (Stable.held _ _) (stable_newB _ _ _ _)) (fun v => stable_two _ _ _ _ _ _) rfl (by kernel_rfl) (by rfl) (fun W hS => freeR_after (T := 115) (n := 2) (cs := #[.int .i64 0, .int .i64 0]) (by go_simp; first | done | with_reducible rfl) hS.1.2.2.size rfl hS.2) (fun vs => ?_)
        simp only [Act.put, List.setIfInBounds_toArray, List.set_cons_zero, List.set_cons_succ]
        refine storeA (i := 12) #[.int .i64 ax, .int .i64 ay] (.inl rfl) rfl (by kernel_rfl) (by rfl) rfl (by rfl) (by rfl) HBH3.out rfl (by kernel_rfl) (by simp [Value.oneCell']) ?_
        simp only [Act.put, List.setIfInBounds_toArray, List.set_cons_zero, List.set_cons_succ]
        refine storeB (i := 13) #[.int .i64 bx, .int .i64 by'] (.inl rfl) rfl (by kernel_rfl) (by rfl) rfl (by rfl) (by rfl) HBH3.out rfl rfl (by kernel_rfl) (by simp [Value.oneCell']) ?_
        simp only [Act.put, List.setIfInBounds_toArray, List.set_cons_zero, List.set_cons_succ]
        refine doneW (by kernel_rfl) fun wH3 HG => ?_
        obtain ⟨⟨⟨⟨hH, _⟩, _⟩, _⟩, ht⟩ := HG
        have BWH3 := Lib.hid hH.2.2
        obtain ⟨b1H3, b2H3, rfl, rfl, hj⟩ := Held.joined2 H2.out hH ht
        have H3 := Lib.hid hj; clear hj hH ht HBH3
        try clear x0 x1 x2 x3 x4 x5 x6
        obtain ⟨x0, x1, x2, x3, x4, x5, x6, x7, x8, x9, x10, _⟩ := H3.out.1
        go_wp2_with fail
        refine regionD (S := fun W => Held _ W [(b2H3, 0, .int .i64 (bx)), (b2H3, 1, .int .i64 (by')), (b1H3, 0, .int .i64 (ax)), (b1H3, 1, .int .i64 (ay)), (w.heap.size + 1, 0, .slice (some ⟨bn, on, none⟩) ns.length c), (w.heap.size + 1, 1, .slice A2 ls.length c2), (w.heap.size, 0, .func (.func 92) #[] #[]), (bn, on + a * 2, .int .i64 (ax)), (bn, on + a * 2 + 1, .int .i64 (ay)), (bn, on + b * 2, .int .i64 (bx)), (bn, on + b * 2 + 1, .int .i64 (by'))]) (by kernel_rfl) H3.out.drew ?_
        iterate 24 (refine takeT (v := ?_) rfl (by kernel_rfl) (by kernel_rfl) (by kernel_rfl) ?_ ?_; rotate_left; (first | (refine Or.inr ⟨by rfl, ?_⟩; with_reducible rfl) | (refine Or.inl ⟨by rfl, fun W hS => detRes_value (w' := W) ?_ hS⟩; obtain ⟨x0, x1, x2, x3, x4, x5, x6, x7, x8, x9, x10, _⟩ := hS.1; go_simp; first | done | with_reducible rfl) | (refine Or.inl ⟨by rfl, fun W hS => ?_⟩; refine detRes_call (w' := W) (f := ?_) (args := ?_) ?_ ?_; rotate_left 2; (go_simp; (refine ⟨?_, ?_⟩ <;> with_reducible rfl)); (first | (with_reducible refine (HFA.out _).mono ?_) | (with_reducible refine (HFB.out _).mono ?_) | fail); (first | (rintro e wn ⟨rfl, hb⟩; refine ⟨?_, hS.step hb⟩; with_reducible rfl) | (rintro e wn ⟨rfl, rfl⟩; refine ⟨?_, hS⟩; with_reducible rfl) | fail)) | fail); (simp only [Act.put, List.setIfInBounds_toArray, List.set_cons_zero, List.set_cons_succ]))
        refine doneD (by kernel_rfl) fun wH4 HS => ?_
        have H4 := Lib.hid HS; clear HS
        try clear x0 x1 x2 x3 x4 x5 x6 x7 x8 x9 x10
        obtain ⟨x0, x1, x2, x3, x4, x5, x6, x7, x8, x9, x10, _⟩ := H4.out.1
        go_wp2_with fail
        exact ⟨⟨m + 1, by omega, by go_num, by rw [HS.out], H4.out.only (fun ⟨_, _, _, _, a, b, k, _⟩ => ⟨a, b, k, trivial⟩) (fun ⟨_, _, _, _, a, b, k, _⟩ => ⟨a, b, k, trivial⟩)⟩, by simp [intOf]; omega⟩
      · refine freeOp (i := 11) (NewB _ 115 2) (Stable.held _ _) (fun v => stable_newB _ _ _ v) rfl (by rfl) (fun W hS => freeR_new (T := 115) (n := 2) (cs := #[.int .i64 0, .int .i64 0]) (by go_simp; first | done | with_reducible rfl) hS.2.2.size rfl) (fun vf hex => ?_)
        clear hex
        simp only [Act.put, List.setIfInBounds_toArray, List.set_cons_zero, List.set_cons_succ]
        refine freeW (i := 10) (fun v => Two _ 115 (Sz 2) (Sz 2) v vf) (Stable.and (Stable.held _ _) (stable_newB _ _ _ _)) (fun v => stable_two _ _ _ _ _ _) rfl (by kernel_rfl) (by rfl) (fun W hS => freeR_before (T := 115) (n := 2) (cs := #[.int .i64 0, .int .i64 0]) (by go_simp; first | done | with_reducible rfl) hS.1.2.2.size rfl hS.2) (fun vs => ?_)
        simp only [Act.put, List.setIfInBounds_toArray, List.set_cons_zero, List.set_cons_succ]
        refine storeA (i := 12) #[.int .i64 ax, .int .i64 ay] (.inr rfl) rfl (by kernel_rfl) (by rfl) rfl (by rfl) (by rfl) HBH3.out rfl (by kernel_rfl) (by simp [Value.oneCell']) ?_
        simp only [Act.put, List.setIfInBounds_toArray, List.set_cons_zero, List.set_cons_succ]
        refine storeB (i := 13) #[.int .i64 bx, .int .i64 by'] (.inr rfl) rfl (by kernel_rfl) (by rfl) rfl (by rfl) (by rfl) HBH3.out rfl rfl (by kernel_rfl) (by simp [Value.oneCell']) ?_
        simp only [Act.put, List.setIfInBounds_toArray, List.set_cons_zero, List.set_cons_succ]
        refine doneW (by kernel_rfl) fun wH3 HG => ?_
        obtain ⟨⟨⟨⟨hH, _⟩, _⟩, _⟩, ht⟩ := HG
        have BWH3 := Lib.hid hH.2.2
        obtain ⟨b1H3, b2H3, rfl, rfl, hj⟩ := Held.joined2 H2.out hH ht
        have H3 := Lib.hid hj; clear hj hH ht HBH3
        try clear x0 x1 x2 x3 x4 x5 x6
        obtain ⟨x0, x1, x2, x3, x4, x5, x6, x7, x8, x9, x10, _⟩ := H3.out.1
        go_wp2_with fail
        refine regionD (S := fun W => Held _ W [(b2H3, 0, .int .i64 (bx)), (b2H3, 1, .int .i64 (by')), (b1H3, 0, .int .i64 (ax)), (b1H3, 1, .int .i64 (ay)), (w.heap.size + 1, 0, .slice (some ⟨bn, on, none⟩) ns.length c), (w.heap.size + 1, 1, .slice A2 ls.length c2), (w.heap.size, 0, .func (.func 92) #[] #[]), (bn, on + a * 2, .int .i64 (ax)), (bn, on + a * 2 + 1, .int .i64 (ay)), (bn, on + b * 2, .int .i64 (bx)), (bn, on + b * 2 + 1, .int .i64 (by'))]) (by kernel_rfl) H3.out.drew ?_
        iterate 24 (refine takeT (v := ?_) rfl (by kernel_rfl) (by kernel_rfl) (by kernel_rfl) ?_ ?_; rotate_left; (first | (refine Or.inr ⟨by rfl, ?_⟩; with_reducible rfl) | (refine Or.inl ⟨by rfl, fun W hS => detRes_value (w' := W) ?_ hS⟩; obtain ⟨x0, x1, x2, x3, x4, x5, x6, x7, x8, x9, x10, _⟩ := hS.1; go_simp; first | done | with_reducible rfl) | (refine Or.inl ⟨by rfl, fun W hS => ?_⟩; refine detRes_call (w' := W) (f := ?_) (args := ?_) ?_ ?_; rotate_left 2; (go_simp; (refine ⟨?_, ?_⟩ <;> with_reducible rfl)); (first | (with_reducible refine (HFA.out _).mono ?_) | (with_reducible refine (HFB.out _).mono ?_) | fail); (first | (rintro e wn ⟨rfl, hb⟩; refine ⟨?_, hS.step hb⟩; with_reducible rfl) | (rintro e wn ⟨rfl, rfl⟩; refine ⟨?_, hS⟩; with_reducible rfl) | fail)) | fail); (simp only [Act.put, List.setIfInBounds_toArray, List.set_cons_zero, List.set_cons_succ]))
        refine doneD (by kernel_rfl) fun wH4 HS => ?_
        have H4 := Lib.hid HS; clear HS
        try clear x0 x1 x2 x3 x4 x5 x6 x7 x8 x9 x10
        obtain ⟨x0, x1, x2, x3, x4, x5, x6, x7, x8, x9, x10, _⟩ := H4.out.1
        go_wp2_with fail
        exact ⟨⟨m + 1, by omega, by go_num, by rw [HS.out], H4.out.only (fun ⟨_, _, _, _, a, b, k, _⟩ => ⟨a, b, k, trivial⟩) (fun ⟨_, _, _, _, a, b, k, _⟩ => ⟨a, b, k, trivial⟩)⟩, by simp [intOf]; omega⟩
    · obtain rfl : m = l.length := by omega
      obtain ⟨x0, x1, x2, _⟩ := H1.out.1
      go_wp2_with fail
      go_ret
      exact ⟨rfl, H1.out.below⟩

set_option maxRecDepth 100000 in
set_option maxHeartbeats 4000000 in
theorem implSumY (ns ls : List Nd) (vn vl vx : Value) (l : List Int) (w : World) (hn : Prs w vn ns) (hl : Prs w vl ls) (hx : Seq w vx l) (hw : winB ns ls = true) (hd : DartsOf ls l) (h40 : l.length ≤ 40) :
    Calls Tryz.prog 94 #[.agg #[.func (.func 93) #[] #[]], .agg #[vn, vl], vx] w (IntIs (momL Nd.y ns ls l l.length) w) := by
  have HN := Lib.hid hn
  have HL := Lib.hid hl
  have HX := Lib.hid hx
  have hlx := hx.len
  obtain ⟨A, c, rfl⟩ := prs_form2 hn
  obtain ⟨A2, c2, rfl⟩ := prs_form2 hl
  obtain ⟨A3, c3, rfl⟩ := seq_form2 hx
  clear hn hl hx
  have h20 := ((winB_iff ns ls).1 hw).1.2
  have HSTEP := Lib.hid (fun m (h : m < l.length) => mom_step (g := Nd.y) hw hd h)
  have HBD := Lib.hid (fun m (h : m ≤ l.length) => mom_bd axisY hw hd m h)
  have HZ := Lib.hid (show momL Nd.y ns ls l 0 = 0 from rfl)
  clear hw hd
  generalize momL Nd.y ns ls l = S at *
  have HE := Lib.hid (fun (q : Nat) w h (hq : q < 2 * ls.length) => dEnds ls (.slice A ns.length c) (.slice A2 ls.length c2) q w h hq h20)
  unfold TwoIs at HE
  have HF := Lib.hid (fun n w => implMidY n w)
  unfold Nd.val at HF
  have H0 := Lib.hid (((Held.none_ w).new2 w.heap.size rfl [.func (.func 93) #[] #[]] 119).new2 (w.heap.size + 1) (by simp) [.slice A ns.length c, .slice A2 ls.length c2] 96)
  simp only [newFs, List.cons_append, List.nil_append, List.append_nil] at H0
  go_enter Tryz.func94, Tryz.ntmps94
  go_wp2_with fail
  go_loopw [7, 16] (fun v i wr => ∃ m : Nat, m ≤ l.length ∧ i = .int .i64 m ∧ v = .int .i64 (S m) ∧ Held w wr [(w.heap.size + 1, 0, .slice A ns.length c), (w.heap.size + 1, 1, .slice A2 ls.length c2), (w.heap.size, 0, .func (.func 93) #[] #[])]) (fun _ i _ => l.length - (intOf i).toNat)
  case atStart => exact ⟨0, Nat.zero_le _, rfl, by rw [HZ.out], H0.out⟩
  case round =>
    clear H0
    obtain ⟨m, hm, rfl, rfl, hh⟩ := hrel
    have H1 := Lib.hid hh; clear hh
    obtain ⟨A3', c3', he3, _, _, hxc⟩ := (HX.out.step H1.out.below).form
    simp only [Value.slice.injEq] at he3
    obtain ⟨rfl, -, -⟩ := he3
    have HXC := Lib.hid hxc; clear hxc
    by_cases hlt : m < l.length
    · obtain ⟨q, a, b, hq, hq2, ha, hb, ha2, hb2, oa, ob, hs⟩ := HSTEP.out m hlt
      obtain ⟨s0, s1⟩ := HBD.out m hm
      obtain ⟨s2, s3⟩ := HBD.out (m + 1) hlt
      obtain ⟨bx_, ox_, rfl, hblx, hcx⟩ := HXC.out m hlt
      rw [hq] at hcx
      obtain ⟨bn, on, c4, he, hbn, hcs⟩ := prs_at2 (HN.out.step H1.out.below) ha2
      injection he with he1 he2 he3
      subst he1
      clear he2 he3
      obtain ⟨q0, q1⟩ := hcs a ha2
      obtain ⟨q2, q3⟩ := hcs b hb2
      clear hcs
      obtain ⟨k1, k2, k3, k4⟩ := area_okb oa
      obtain ⟨l1, l2, l3, l4⟩ := area_okb ob
      obtain ⟨m1, m2⟩ := area_prod k1 k2 l3 l4
      obtain ⟨m3, m4⟩ := area_prod k3 k4 l1 l2
      have HFA := Lib.hid (fun w => HF.out (atN ns a) w)
      have HFB := Lib.hid (fun w => HF.out (atN ns b) w)
      generalize (atN ns a).x = ax at *
      generalize (atN ns a).y = ay at *
      generalize (atN ns b).x = bx at *
      generalize (atN ns b).y = by' at *
      have HS := Lib.hid hs; clear hs
      obtain ⟨p1, hp1⟩ : ∃ p : Int, ax * by' = p := ⟨_, rfl⟩
      obtain ⟨p2, hp2⟩ : ∃ p : Int, ay * bx = p := ⟨_, rfl⟩
      rw [hp1] at m1 m2
      rw [hp2] at m3 m4
      rw [hp1, hp2] at HS
      obtain ⟨r1, r2⟩ := mom_prod (s := ay + by') (c := p1 - p2) (by omega) (by omega) (by omega) (by omega)
      obtain ⟨pr, hpr⟩ : ∃ p : Int, (ay + by') * (p1 - p2) = p := ⟨_, rfl⟩
      rw [hpr] at r1 r2 HS
      have e1 : IntKind.i64.wrap (ax * by') = p1 := by rw [hp1]; exact IntWalk.i64_in _ (by omega)
      have e2 : IntKind.i64.wrap (ay * bx) = p2 := by rw [hp2]; exact IntWalk.i64_in _ (by omega)
      have e5 : IntKind.i64.wrap ((ay + by') * (p1 - p2)) = pr := by rw [hpr]; exact IntWalk.i64_in _ (by omega)
      have e3 : IntKind.i64.wrap (p1 - p2) = p1 - p2 := IntWalk.i64_in _ (by omega)
      have e4 : IntKind.i64.wrap (ay + by') = ay + by' := IntWalk.i64_in _ (by omega)
      generalize S m = s at *
      have e6 : IntKind.i64.wrap (s - pr) = s - pr := IntWalk.i64_in _ (by omega)
      have hz1 : (m : Int) < (l.length : Int) := by omega
      have hz2 : (0 : Int) ≤ m := by omega
      have hz3 : (a : Int) < (ns.length : Int) := by omega
      have hz4 : (0 : Int) ≤ a := by omega
      have hz5 : (b : Int) < (ns.length : Int) := by omega
      have hz6 : (0 : Int) ≤ b := by omega
      clear hp1 hp2 hpr
      have HEq := Lib.hid (fun w h => HE.out q w h hq2)
      rw [ha, hb] at HEq
      clear ha hb
      have H2 := Lib.hid (held_plus H1.out (gs := [(bn, on + a * 2, .int .i64 ax), (bn, on + a * 2 + 1, .int .i64 ay), (bn, on + b * 2, .int .i64 bx), (bn, on + b * 2 + 1, .int .i64 by')]) ⟨q0, q1, q2, q3, trivial⟩ ⟨hbn, hbn, hbn, hbn, trivial⟩)
      clear q0 q1 q2 q3
      obtain ⟨x0, x1, x2, x3, x4, x5, x6, _⟩ := H2.out.1
      go_wp2_with fail
      refine (HEq.out _ (HL.out.step H2.out.below)).mono ?_
      rintro e w5 ⟨rfl, hb5⟩
      have H2 := Lib.hid (H2.out.step hb5); clear hb5 hcx x0 x1 x2 x3 x4 x5 x6
      obtain ⟨x0, x1, x2, x3, x4, x5, x6, _⟩ := H2.out.1
      go_wp2_with fail
      have HBH3 := Lib.hid H2.out.2.1
      refine regionW (fun W => Held _ W [(w.heap.size + 1, 0, .slice (some ⟨bn, on, none⟩) ns.length c), (w.heap.size + 1, 1, .slice A2 ls.length c2), (w.heap.size, 0, .func (.func 93) #[] #[]), (bn, on + a * 2, .int .i64 (ax)), (bn, on + a * 2 + 1, .int .i64 (ay)), (bn, on + b * 2, .int .i64 (bx)), (bn, on + b * 2 + 1, .int .i64 (by'))]) (by kernel_rfl) (Held.start H2.out.1 H2.out.2.1).drew ?_
      refine takeW (i := 0) (v := ?_) (Stable.held _ _) rfl (by kernel_rfl) (by kernel_rfl) (by kernel_rfl) (fun _ _ _ h => h) ?_ ?_
      rotate_left
      · first | (refine Or.inl ⟨by rfl, fun W hS => detR_value (w' := W) ?_ (Below.refl _ _)⟩; obtain ⟨x0, x1, x2, x3, x4, x5, x6, _⟩ := hS.1; go_simp; first | done | with_reducible rfl) | fail
      simp only [Act.put, List.setIfInBounds_toArray, List.set_cons_zero, List.set_cons_succ]
      refine takeW (i := 1) (v := ?_) (Stable.held _ _) rfl (by kernel_rfl) (by kernel_rfl) (by kernel_rfl) (fun _ _ _ h => h) ?_ ?_
      rotate_left
      · first | (refine Or.inl ⟨by rfl, fun W hS => detR_value (w' := W) ?_ (Below.refl _ _)⟩; obtain ⟨x0, x1, x2, x3, x4, x5, x6, _⟩ := hS.1; go_simp; first | done | with_reducible rfl) | fail
      simp only [Act.put, List.setIfInBounds_toArray, List.set_cons_zero, List.set_cons_succ]
      refine takeW (i := 2) (v := ?_) (Stable.held _ _) rfl (by kernel_rfl) (by kernel_rfl) (by kernel_rfl) (fun _ _ _ h => h) ?_ ?_
      rotate_left
      · first | (refine Or.inl ⟨by rfl, fun W hS => detR_value (w' := W) ?_ (Below.refl _ _)⟩; obtain ⟨x0, x1, x2, x3, x4, x5, x6, _⟩ := hS.1; go_simp; first | done | with_reducible rfl) | fail
      simp only [Act.put, List.setIfInBounds_toArray, List.set_cons_zero, List.set_cons_succ]
      refine takeW (i := 3) (v := ?_) (Stable.held _ _) rfl (by kernel_rfl) (by kernel_rfl) (by kernel_rfl) (fun _ _ _ h => h) ?_ ?_
      rotate_left
      · first | (refine Or.inl ⟨by rfl, fun W hS => detR_value (w' := W) ?_ (Below.refl _ _)⟩; obtain ⟨x0, x1, x2, x3, x4, x5, x6, _⟩ := hS.1; go_simp; first | done | with_reducible rfl) | fail
      simp only [Act.put, List.setIfInBounds_toArray, List.set_cons_zero, List.set_cons_succ]
      refine takeW (i := 4) (v := ?_) (Stable.held _ _) rfl (by kernel_rfl) (by kernel_rfl) (by kernel_rfl) (fun _ _ _ h => h) ?_ ?_
      rotate_left
      · first | (refine Or.inl ⟨by rfl, fun W hS => detR_value (w' := W) ?_ (Below.refl _ _)⟩; obtain ⟨x0, x1, x2, x3, x4, x5, x6, _⟩ := hS.1; go_simp; first | done | with_reducible rfl) | fail
      simp only [Act.put, List.setIfInBounds_toArray, List.set_cons_zero, List.set_cons_succ]
      refine takeW (i := 5) (v := ?_) (Stable.held _ _) rfl (by kernel_rfl) (by kernel_rfl) (by kernel_rfl) (fun _ _ _ h => h) ?_ ?_
      rotate_left
      · first | (refine Or.inl ⟨by rfl, fun W hS => detR_value (w' := W) ?_ (Below.refl _ _)⟩; obtain ⟨x0, x1, x2, x3, x4, x5, x6, _⟩ := hS.1; go_simp; first | done | with_reducible rfl) | fail
      simp only [Act.put, List.setIfInBounds_toArray, List.set_cons_zero, List.set_cons_succ]
      refine takeW (i := 6) (v := ?_) (Stable.held _ _) rfl (by kernel_rfl) (by kernel_rfl) (by kernel_rfl) (fun _ _ _ h => h) ?_ ?_
      rotate_left
      · first | (refine Or.inl ⟨by rfl, fun W hS => detR_value (w' := W) ?_ (Below.refl _ _)⟩; obtain ⟨x0, x1, x2, x3, x4, x5, x6, _⟩ := hS.1; go_simp; first | done | with_reducible rfl) | fail
      simp only [Act.put, List.setIfInBounds_toArray, List.set_cons_zero, List.set_cons_succ]
      refine takeW (i := 7) (v := ?_) (Stable.held _ _) rfl (by kernel_rfl) (by kernel_rfl) (by kernel_rfl) (fun _ _ _ h => h) ?_ ?_
      rotate_left
      · first | (refine Or.inl ⟨by rfl, fun W hS => detR_value (w' := W) ?_ (Below.refl _ _)⟩; obtain ⟨x0, x1, x2, x3, x4, x5, x6, _⟩ := hS.1; go_simp; first | done | with_reducible rfl) | fail
      simp only [Act.put, List.setIfInBounds_toArray, List.set_cons_zero, List.set_cons_succ]
      refine takeW (i := 8) (v := ?_) (Stable.held _ _) rfl (by kernel_rfl) (by kernel_rfl) (by kernel_rfl) (fun _ _ _ h => h) ?_ ?_
      rotate_left
      · first | (refine Or.inl ⟨by rfl, fun W hS => detR_value (w' := W) ?_ (Below.refl _ _)⟩; obtain ⟨x0, x1, x2, x3, x4, x5, x6, _⟩ := hS.1; go_simp; first | done | with_reducible rfl) | fail
      simp only [Act.put, List.setIfInBounds_toArray, List.set_cons_zero, List.set_cons_succ]
      refine takeW (i := 9) (v := ?_) (Stable.held _ _) rfl (by kernel_rfl) (by kernel_rfl) (by kernel_rfl) (fun _ _ _ h => h) ?_ ?_
      rotate_left
      · first | (refine Or.inl ⟨by rfl, fun W hS => detR_value (w' := W) ?_ (Below.refl _ _)⟩; obtain ⟨x0, x1, x2, x3, x4, x5, x6, _⟩ := hS.1; go_simp; first | done | with_reducible rfl) | fail
      simp only [Act.put, List.setIfInBounds_toArray, List.set_cons_zero, List.set_cons_succ]
      refine freeOr (i := 10) (j := 11) (by kernel_rfl) ?_ ?_
      · refine freeOp (i := 10) (NewB _ 115 2) (Stable.held _ _) (fun v => stable_newB _ _ _ v) rfl (by rfl) (fun W hS => freeR_new (T := 115) (n := 2) (cs := #[.int .i64 0, .int .i64 0]) (by go_simp; first | done | with_reducible rfl) hS.2.2.size rfl) (fun vf hex => ?_)
        clear hex
        simp only [Act.put, List.setIfInBounds_toArray, List.set_cons_zero, List.set_cons_succ]
        refine freeW (i := 11) (fun v => Two _ 115 (Sz 2) (Sz 2) vf v) (Stable.and (Stable.held _ _) (stable_newB _ _ _ _)) (fun v => stable_two _ _ _ _ _ _) rfl (by kernel_rfl) (by rfl) (fun W hS => freeR_after (T := 115) (n := 2) (cs := #[.int .i64 0, .int .i64 0]) (by go_simp; first | done | with_reducible rfl) hS.1.2.2.size rfl hS.2) (fun vs => ?_)
        simp only [Act.put, List.setIfInBounds_toArray, List.set_cons_zero, List.set_cons_succ]
        refine storeA (i := 12) #[.int .i64 ax, .int .i64 ay] (.inl rfl) rfl (by kernel_rfl) (by rfl) rfl (by rfl) (by rfl) HBH3.out rfl (by kernel_rfl) (by simp [Value.oneCell']) ?_
        simp only [Act.put, List.setIfInBounds_toArray, List.set_cons_zero, List.set_cons_succ]
        refine storeB (i := 13) #[.int .i64 bx, .int .i64 by'] (.inl rfl) rfl (by kernel_rfl) (by rfl) rfl (by rfl) (by rfl) HBH3.out rfl rfl (by kernel_rfl) (by simp [Value.oneCell']) ?_
        simp only [Act.put, List.setIfInBounds_toArray, List.set_cons_zero, List.set_cons_succ]
        refine doneW (by kernel_rfl) fun wH3 HG => ?_
        obtain ⟨⟨⟨⟨hH, _⟩, _⟩, _⟩, ht⟩ := HG
        have BWH3 := Lib.hid hH.2.2
        obtain ⟨b1H3, b2H3, rfl, rfl, hj⟩ := Held.joined2 H2.out hH ht
        have H3 := Lib.hid hj; clear hj hH ht HBH3
        try clear x0 x1 x2 x3 x4 x5 x6
        obtain ⟨x0, x1, x2, x3, x4, x5, x6, x7, x8, x9, x10, _⟩ := H3.out.1
        go_wp2_with fail
        refine regionD (S := fun W => Held _ W [(b2H3, 0, .int .i64 (bx)), (b2H3, 1, .int .i64 (by')), (b1H3, 0, .int .i64 (ax)), (b1H3, 1, .int .i64 (ay)), (w.heap.size + 1, 0, .slice (some ⟨bn, on, none⟩) ns.length c), (w.heap.size + 1, 1, .slice A2 ls.length c2), (w.heap.size, 0, .func (.func 93) #[] #[]), (bn, on + a * 2, .int .i64 (ax)), (bn, on + a * 2 + 1, .int .i64 (ay)), (bn, on + b * 2, .int .i64 (bx)), (bn, on + b * 2 + 1, .int .i64 (by'))]) (by kernel_rfl) H3.out.drew ?_
        iterate 24 (refine takeT (v := ?_) rfl (by kernel_rfl) (by kernel_rfl) (by kernel_rfl) ?_ ?_; rotate_left; (first | (refine Or.inr ⟨by rfl, ?_⟩; with_reducible rfl) | (refine Or.inl ⟨by rfl, fun W hS => detRes_value (w' := W) ?_ hS⟩; obtain ⟨x0, x1, x2, x3, x4, x5, x6, x7, x8, x9, x10, _⟩ := hS.1; go_simp; first | done | with_reducible rfl) | (refine Or.inl ⟨by rfl, fun W hS => ?_⟩; refine detRes_call (w' := W) (f := ?_) (args := ?_) ?_ ?_; rotate_left 2; (go_simp; (refine ⟨?_, ?_⟩ <;> with_reducible rfl)); (first | (with_reducible refine (HFA.out _).mono ?_) | (with_reducible refine (HFB.out _).mono ?_) | fail); (first | (rintro e wn ⟨rfl, hb⟩; refine ⟨?_, hS.step hb⟩; with_reducible rfl) | (rintro e wn ⟨rfl, rfl⟩; refine ⟨?_, hS⟩; with_reducible rfl) | fail)) | fail); (simp only [Act.put, List.setIfInBounds_toArray, List.set_cons_zero, List.set_cons_succ]))
        refine doneD (by kernel_rfl) fun wH4 HS => ?_
        have H4 := Lib.hid HS; clear HS
        try clear x0 x1 x2 x3 x4 x5 x6 x7 x8 x9 x10
        obtain ⟨x0, x1, x2, x3, x4, x5, x6, x7, x8, x9, x10, _⟩ := H4.out.1
        go_wp2_with fail
        exact ⟨⟨m + 1, by omega, by go_num, by rw [HS.out], H4.out.only (fun ⟨_, _, _, _, a, b, k, _⟩ => ⟨a, b, k, trivial⟩) (fun ⟨_, _, _, _, a, b, k, _⟩ => ⟨a, b, k, trivial⟩)⟩, by simp [intOf]; omega⟩
      · refine freeOp (i := 11) (NewB _ 115 2) (Stable.held _ _) (fun v => stable_newB _ _ _ v) rfl (by rfl) (fun W hS => freeR_new (T := 115) (n := 2) (cs := #[.int .i64 0, .int .i64 0]) (by go_simp; first | done | with_reducible rfl) hS.2.2.size rfl) (fun vf hex => ?_)
        clear hex
        simp only [Act.put, List.setIfInBounds_toArray, List.set_cons_zero, List.set_cons_succ]
        refine freeW (i := 10) (fun v => Two _ 115 (Sz 2) (Sz 2) v vf) (Stable.and (Stable.held _ _) (stable_newB _ _ _ _)) (fun v => stable_two _ _ _ _ _ _) rfl (by kernel_rfl) (by rfl) (fun W hS => freeR_before (T := 115) (n := 2) (cs := #[.int .i64 0, .int .i64 0]) (by go_simp; first | done | with_reducible rfl) hS.1.2.2.size rfl hS.2) (fun vs => ?_)
        simp only [Act.put, List.setIfInBounds_toArray, List.set_cons_zero, List.set_cons_succ]
        refine storeA (i := 12) #[.int .i64 ax, .int .i64 ay] (.inr rfl) rfl (by kernel_rfl) (by rfl) rfl (by rfl) (by rfl) HBH3.out rfl (by kernel_rfl) (by simp [Value.oneCell']) ?_
        simp only [Act.put, List.setIfInBounds_toArray, List.set_cons_zero, List.set_cons_succ]
        refine storeB (i := 13) #[.int .i64 bx, .int .i64 by'] (.inr rfl) rfl (by kernel_rfl) (by rfl) rfl (by rfl) (by rfl) HBH3.out rfl rfl (by kernel_rfl) (by simp [Value.oneCell']) ?_
        simp only [Act.put, List.setIfInBounds_toArray, List.set_cons_zero, List.set_cons_succ]
        refine doneW (by kernel_rfl) fun wH3 HG => ?_
        obtain ⟨⟨⟨⟨hH, _⟩, _⟩, _⟩, ht⟩ := HG
        have BWH3 := Lib.hid hH.2.2
        obtain ⟨b1H3, b2H3, rfl, rfl, hj⟩ := Held.joined2 H2.out hH ht
        have H3 := Lib.hid hj; clear hj hH ht HBH3
        try clear x0 x1 x2 x3 x4 x5 x6
        obtain ⟨x0, x1, x2, x3, x4, x5, x6, x7, x8, x9, x10, _⟩ := H3.out.1
        go_wp2_with fail
        refine regionD (S := fun W => Held _ W [(b2H3, 0, .int .i64 (bx)), (b2H3, 1, .int .i64 (by')), (b1H3, 0, .int .i64 (ax)), (b1H3, 1, .int .i64 (ay)), (w.heap.size + 1, 0, .slice (some ⟨bn, on, none⟩) ns.length c), (w.heap.size + 1, 1, .slice A2 ls.length c2), (w.heap.size, 0, .func (.func 93) #[] #[]), (bn, on + a * 2, .int .i64 (ax)), (bn, on + a * 2 + 1, .int .i64 (ay)), (bn, on + b * 2, .int .i64 (bx)), (bn, on + b * 2 + 1, .int .i64 (by'))]) (by kernel_rfl) H3.out.drew ?_
        iterate 24 (refine takeT (v := ?_) rfl (by kernel_rfl) (by kernel_rfl) (by kernel_rfl) ?_ ?_; rotate_left; (first | (refine Or.inr ⟨by rfl, ?_⟩; with_reducible rfl) | (refine Or.inl ⟨by rfl, fun W hS => detRes_value (w' := W) ?_ hS⟩; obtain ⟨x0, x1, x2, x3, x4, x5, x6, x7, x8, x9, x10, _⟩ := hS.1; go_simp; first | done | with_reducible rfl) | (refine Or.inl ⟨by rfl, fun W hS => ?_⟩; refine detRes_call (w' := W) (f := ?_) (args := ?_) ?_ ?_; rotate_left 2; (go_simp; (refine ⟨?_, ?_⟩ <;> with_reducible rfl)); (first | (with_reducible refine (HFA.out _).mono ?_) | (with_reducible refine (HFB.out _).mono ?_) | fail); (first | (rintro e wn ⟨rfl, hb⟩; refine ⟨?_, hS.step hb⟩; with_reducible rfl) | (rintro e wn ⟨rfl, rfl⟩; refine ⟨?_, hS⟩; with_reducible rfl) | fail)) | fail); (simp only [Act.put, List.setIfInBounds_toArray, List.set_cons_zero, List.set_cons_succ]))
        refine doneD (by kernel_rfl) fun wH4 HS => ?_
        have H4 := Lib.hid HS; clear HS
        try clear x0 x1 x2 x3 x4 x5 x6 x7 x8 x9 x10
        obtain ⟨x0, x1, x2, x3, x4, x5, x6, x7, x8, x9, x10, _⟩ := H4.out.1
        go_wp2_with fail
        exact ⟨⟨m + 1, by omega, by go_num, by rw [HS.out], H4.out.only (fun ⟨_, _, _, _, a, b, k, _⟩ => ⟨a, b, k, trivial⟩) (fun ⟨_, _, _, _, a, b, k, _⟩ => ⟨a, b, k, trivial⟩)⟩, by simp [intOf]; omega⟩
    · obtain rfl : m = l.length := by omega
      obtain ⟨x0, x1, x2, _⟩ := H1.out.1
      go_wp2_with fail
      go_ret
      exact ⟨rfl, H1.out.below⟩
end Go.Proofs.YtepacoacalhdcaaGreat
