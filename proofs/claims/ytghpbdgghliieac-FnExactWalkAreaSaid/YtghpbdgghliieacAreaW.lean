/-
  The area to the left of a walk, of the model and of the program (XDet2, XArea and XAreaI in one text: a claim has at most 60 files).
-/
import Derived.Test.YtghpbdgghliieacDetV
import Derived.Test.YtghpbdgghliieacCopyP
import Derived.Test.YtghpbdgghliieacWalkJ
import Derived.Test.YtghpbdgghliieacSeq
import Derived.Test.YtghpbdgghliieacWinI
namespace Go.Proofs.Ytghpbdgghliieac
section
open Go.RowKit
set_option linter.unusedVariables false
set_option linter.unusedSimpArgs false

/-- v1 and v2 point to two blocks of type T that were made since W0; p1 and p2 hold of their cells. -/
def Two (W0 : World) (T : TypeId) (p1 p2 : Array Value → Prop) (v1 v2 : Value) (W : World) : Prop :=
  ∃ b1 b2 c1 c2, v1 = .pointer (some ⟨b1, 0, none⟩) ∧ v2 = .pointer (some ⟨b2, 0, none⟩) ∧ b1 ≠ b2 ∧ W0.heap.size ≤ b1 ∧ W0.heap.size ≤ b2 ∧ W.heap[b1]? = some (.cells c1 T (0, 0)) ∧ W.heap[b2]? = some (.cells c2 T (0, 0)) ∧ p1 c1 ∧ p2 c2
theorem stable_two (W0 : World) (T : TypeId) (p1 p2 : Array Value → Prop) (v1 v2 : Value) : Stable fun W => Two W0 T p1 p2 v1 v2 W :=
  fun _ _ ⟨b1, b2, c1, c2, h1, h2, h3, h4, h5, h6, h7, h8⟩ hb => ⟨b1, b2, c1, c2, h1, h2, h3, h4, h5, (hb.block b1 (lt_of_block h6)).trans h6, (hb.block b2 (lt_of_block h7)).trans h7, h8⟩
def Sz (n : Nat) (cs : Array Value) : Prop := cs.size = n
theorem Two.left {W0 W : World} {T : TypeId} {n : Nat} {p2 : Array Value → Prop} {v1 v2 : Value} (h : Two W0 T (Sz n) p2 v1 v2 W) : NewB W0 T n v1 W := by
  obtain ⟨b1, b2, c1, c2, h1, h2, h3, h4, h5, h6, h7, h8, h9⟩ := h
  exact ⟨b1, c1, h1, h4, h6, h8⟩
theorem Two.right {W0 W : World} {T : TypeId} {n : Nat} {p1 : Array Value → Prop} {v1 v2 : Value} (h : Two W0 T p1 (Sz n) v1 v2 W) : NewB W0 T n v2 W := by
  obtain ⟨b1, b2, c1, c2, h1, h2, h3, h4, h5, h6, h7, h8, h9⟩ := h
  exact ⟨b2, c2, h2, h5, h7, h9⟩

section
variable {P : Program} {ops : Array Oper} {Q : Exit → Act → World → Prop} {md : Region.Mode}
theorem freeR_after {W0 w : World} {T : TypeId} {n : Nat} {r : Result Next} {cs : Array Value} {v1 : Value} (h : r = .ok (.value (.pointer (some ⟨w.heap.size, 0, none⟩))) (w.alloc (.cells cs T))) (hw : W0.heap.size ≤ w.heap.size) (hn : cs.size = n) (h1 : NewB W0 T n v1 w) : FreeR P (fun v => Two W0 T (Sz n) (Sz n) v1 v) w r := by
  subst h
  obtain ⟨b, c, rfl, hb, hc, hs⟩ := h1
  have hlt := lt_of_block hc
  exact ⟨⟨b, _, c, cs, rfl, rfl, by omega, hb, hw, (((Below.refl w.heap.size w).alloc (Nat.le_refl _) (.cells cs T)).block b hlt).trans hc, heap_alloc_new w _, hs, hn⟩, (Below.refl _ _).alloc (Nat.le_refl _) _⟩
theorem Two.swap {W0 W : World} {T : TypeId} {p1 p2 : Array Value → Prop} {v1 v2 : Value} (h : Two W0 T p1 p2 v1 v2 W) : Two W0 T p2 p1 v2 v1 W := by
  obtain ⟨b1, b2, c1, c2, h1, h2, h3, h4, h5, h6, h7, h8, h9⟩ := h
  exact ⟨b2, b1, c2, c1, h2, h1, h3.symm, h5, h4, h7, h6, h9, h8⟩
theorem freeR_before {W0 w : World} {T : TypeId} {n : Nat} {r : Result Next} {cs : Array Value} {v1 : Value} (h : r = .ok (.value (.pointer (some ⟨w.heap.size, 0, none⟩))) (w.alloc (.cells cs T))) (hw : W0.heap.size ≤ w.heap.size) (hn : cs.size = n) (h1 : NewB W0 T n v1 w) : FreeR P (fun v => Two W0 T (Sz n) (Sz n) v v1) w r := by
  subst h
  obtain ⟨b, c, rfl, hb, hc, hs⟩ := h1
  have hlt := lt_of_block hc
  exact ⟨⟨_, b, cs, c, rfl, rfl, by omega, hw, hb, heap_alloc_new w _, (((Below.refl w.heap.size w).alloc (Nat.le_refl _) (.cells cs T)).block b hlt).trans hc, hn, hs⟩, (Below.refl _ _).alloc (Nat.le_refl _) _⟩

theorem storeA {l rest : List Oper} {i : Nat} {oi : Oper} {fuel : Nat} {listed : Array Bool} {a : Act} {W0 : World} {T : TypeId} {va v1 v2 : Value} {fs : List (Nat × Nat × Value)} {ty : TypeId} {x y : Operand} {n : Nat} (cells : Array Value)
    (hva : va = v1 ∨ va = v2) (hi : l.drop i = oi :: rest) (hr : Region.ready md l.toArray listed = [i]) (hw : Region.wanted oi (yielded l.toArray a.tmps) = true) (ho : oi.op = .store ty x y) (hx : a.eval x = v1) (hy : a.eval y = .agg cells)
    (hB : Bs W0.heap.size fs) (hn : cells.size = n) (hinfo : (P.info? ty).map (·.size) = some cells.size) (h1 : cells.all (·.oneCell') = true)
    (h : wpAnyW P md l.toArray Q fuel (listed.setIfInBounds i true) (a.put oi.dst undef) (fun W => ((Held W0 W fs ∧ NewB W0 T n va W) ∧ Two W0 T (Sz n) (Sz n) v1 v2 W) ∧ Two W0 T (· = cells) (Sz n) v1 v2 W)) :
    wpAnyW P md l.toArray Q (fuel + 1) listed a (fun W => (Held W0 W fs ∧ NewB W0 T n va W) ∧ Two W0 T (Sz n) (Sz n) v1 v2 W) := by
  subst hn
  refine effW (v := undef) (fun W => Two W0 T (· = cells) (Sz cells.size) v1 v2 W) (Stable.and (Stable.and (Stable.held _ _) (stable_newB _ _ _ _)) (stable_two _ _ _ _ _ _)) (stable_two _ _ _ _ _ _) hi hr hw (fun W hS => ?_) h
  obtain ⟨⟨hH, _⟩, b1, b2, c1, c2, rfl, rfl, hne, hb1, hb2, hc1, hc2, hs1, hs2⟩ := hS
  unfold execOp
  simp only [ho, hx, hy, Instr.storeAt, Instr.sureAddr, Sem.run_bind, Sem.run_pure, Result.andThen_ok, run_storeVar_row W b1 T ty c1 cells hc1 hinfo hs1 h1]
  have k1 := setRow_heap W b1 c1 cells T _ hc1
  have k2 := (setRow_other W b1 b2 cells (Ne.symm hne)).trans hc2
  have t : Two W0 T (Sz cells.size) (Sz cells.size) (.pointer (some ⟨b1, 0, none⟩)) (.pointer (some ⟨b2, 0, none⟩)) (W.setRow b1 cells) := ⟨b1, b2, cells, c2, rfl, rfl, hne, hb1, hb2, k1, k2, rfl, hs2⟩
  exact ⟨rfl, ⟨⟨hH.setRow hB hb1 _, by rcases hva with rfl | rfl; exact t.left; exact t.right⟩, t⟩, b1, b2, cells, c2, rfl, rfl, hne, hb1, hb2, k1, k2, rfl, hs2⟩
theorem storeB {l rest : List Oper} {i : Nat} {oi : Oper} {fuel : Nat} {listed : Array Bool} {a : Act} {W0 : World} {T : TypeId} {va v1 v2 : Value} {fs : List (Nat × Nat × Value)} {ty : TypeId} {x y : Operand} {n : Nat} {d1 : Array Value} (cells : Array Value)
    (hva : va = v1 ∨ va = v2) (hi : l.drop i = oi :: rest) (hr : Region.ready md l.toArray listed = [i]) (hw : Region.wanted oi (yielded l.toArray a.tmps) = true) (ho : oi.op = .store ty x y) (hx : a.eval x = v2) (hy : a.eval y = .agg cells)
    (hB : Bs W0.heap.size fs) (hn : cells.size = n) (hd : d1.size = n) (hinfo : (P.info? ty).map (·.size) = some cells.size) (h1 : cells.all (·.oneCell') = true)
    (h : wpAnyW P md l.toArray Q fuel (listed.setIfInBounds i true) (a.put oi.dst undef) (fun W => (((Held W0 W fs ∧ NewB W0 T n va W) ∧ Two W0 T (Sz n) (Sz n) v1 v2 W) ∧ Two W0 T (· = d1) (Sz n) v1 v2 W) ∧ Two W0 T (· = d1) (· = cells) v1 v2 W)) :
    wpAnyW P md l.toArray Q (fuel + 1) listed a (fun W => ((Held W0 W fs ∧ NewB W0 T n va W) ∧ Two W0 T (Sz n) (Sz n) v1 v2 W) ∧ Two W0 T (· = d1) (Sz n) v1 v2 W) := by
  subst hn
  refine effW (v := undef) (fun W => Two W0 T (· = d1) (· = cells) v1 v2 W) (Stable.and (Stable.and (Stable.and (Stable.held _ _) (stable_newB _ _ _ _)) (stable_two _ _ _ _ _ _)) (stable_two _ _ _ _ _ _)) (stable_two _ _ _ _ _ _) hi hr hw (fun W hS => ?_) h
  obtain ⟨⟨⟨hH, _⟩, _⟩, b1, b2, c1, c2, rfl, rfl, hne, hb1, hb2, hc1, hc2, rfl, hs2⟩ := hS
  unfold execOp
  simp only [ho, hx, hy, Instr.storeAt, Instr.sureAddr, Sem.run_bind, Sem.run_pure, Result.andThen_ok, run_storeVar_row W b2 T ty c2 cells hc2 hinfo hs2 h1]
  have k2 := setRow_heap W b2 c2 cells T _ hc2
  have k1 := (setRow_other W b2 b1 cells hne).trans hc1
  have t : Two W0 T (Sz cells.size) (Sz cells.size) (.pointer (some ⟨b1, 0, none⟩)) (.pointer (some ⟨b2, 0, none⟩)) (W.setRow b2 cells) := ⟨b1, b2, c1, cells, rfl, rfl, hne, hb1, hb2, k1, k2, hd, rfl⟩
  exact ⟨rfl, ⟨⟨⟨hH.setRow hB hb2 _, by rcases hva with rfl | rfl; exact t.left; exact t.right⟩, t⟩, b1, b2, c1, cells, rfl, rfl, hne, hb1, hb2, k1, k2, rfl, rfl⟩, b1, b2, c1, cells, rfl, rfl, hne, hb1, hb2, k1, k2, rfl, rfl⟩
end
theorem Held.joined2 {w W0 W : World} {fs gs : List (Nat × Nat × Value)} {T : TypeId} {v1 v2 x1 y1 x2 y2 : Value} (h0 : Held w W0 gs) (h : Held W0 W fs) (ht : Two W0 T (· = #[x1, y1]) (· = #[x2, y2]) v1 v2 W) :
    ∃ b1 b2, v1 = .pointer (some ⟨b1, 0, none⟩) ∧ v2 = .pointer (some ⟨b2, 0, none⟩) ∧ Held w W ((b2, 0, x2) :: (b2, 1, y2) :: (b1, 0, x1) :: (b1, 1, y1) :: fs) := by
  obtain ⟨b1, b2, c1, c2, rfl, rfl, hne, hb1, hb2, hc1, hc2, rfl, rfl⟩ := ht
  exact ⟨b1, b2, rfl, rfl, h0.joined ((Held.none_ W0).joined h hc1) hc2⟩
end

section
open Go.RowKit
set_option linter.unusedVariables false
set_option linter.unusedSimpArgs false

theorem stable_seqA (v : Value) (xs : List Int) : Stable fun W => Seq W v xs := fun _ _ h hb => h.step hb
theorem area_prod {a b : Int} (h1 : 0 ≤ a) (h2 : a ≤ 20) (h3 : 0 ≤ b) (h4 : b ≤ 20) : 0 ≤ a * b ∧ a * b ≤ 400 := by
  have p := Int.mul_nonneg h1 h3
  have q := Int.mul_le_mul h2 h4 h3 (by omega : (0 : Int) ≤ 20)
  omega
theorem area_okb {n : Nd} (h : okB n = true) : 0 ≤ n.x ∧ n.x ≤ 20 ∧ 0 ≤ n.y ∧ n.y ≤ 20 := by
  unfold okB at h
  simp only [Bool.and_eq_true, inB_iff] at h
  exact ⟨h.1.1, h.1.2, h.2.1, h.2.2⟩
/-- Each of the list's darts is one of the window's. -/
def DartsOf (ls : List Nd) (l : List Int) : Prop := ∀ i, i < l.length → ∃ q : Nat, atZ l i = q ∧ q < 2 * ls.length
theorem area_step {ns ls : List Nd} {l : List Int} (hw : winB ns ls = true) (hl : DartsOf ls l) {m : Nat} (hm : m < l.length) : ∃ q a b : Nat, atZ l m = q ∧ q < 2 * ls.length ∧ dF ls q = a ∧ dT ls q = b ∧ a < ns.length ∧ b < ns.length ∧ okB (atN ns a) = true ∧ okB (atN ns b) = true ∧
    areaL ns ls l (m + 1) = areaL ns ls l m + ((atN ns a).x * (atN ns b).y - (atN ns a).y * (atN ns b).x) := by
  obtain ⟨q, hq, hq2⟩ := hl m hm
  obtain ⟨a, b, ha, hb, ha2, hb2, _⟩ := dart_nat hw hq2
  refine ⟨q, a, b, hq, hq2, ha, hb, ha2, hb2, ((((winB_iff ns ls).1 hw).2.1 a ha2).1), ((((winB_iff ns ls).1 hw).2.1 b hb2).1), ?_⟩
  rw [areaL, hq, Int.toNat_natCast, ha, hb]
  rfl
theorem area_bd {ns ls : List Nd} {l : List Int} (hw : winB ns ls = true) (hl : DartsOf ls l) : ∀ m, m ≤ l.length → -(400 * (m : Int)) ≤ areaL ns ls l m ∧ areaL ns ls l m ≤ 400 * m
  | 0, _ => by simp [areaL]
  | m + 1, h => by
    obtain ⟨q, a, b, -, -, -, -, -, -, oa, ob, e⟩ := area_step hw hl (show m < l.length by omega)
    have ih := area_bd hw hl m (by omega)
    obtain ⟨a1, a2, a3, a4⟩ := area_okb oa
    obtain ⟨b1, b2, b3, b4⟩ := area_okb ob
    have p := area_prod a1 a2 b3 b4
    have p2 := area_prod a3 a4 b1 b2
    rw [e]
    omega

set_option maxRecDepth 100000 in
set_option maxHeartbeats 4000000 in
theorem implAlong (ns ls : List Nd) (vn vl vx : Value) (l : List Int) (w : World) (hn : Prs w vn ns) (hl : Prs w vl ls) (hx : Seq w vx l) (hw : winB ns ls = true) (hd : DartsOf ls l) (h40 : l.length ≤ 40) :
    Calls Try.prog 69 #[.agg #[vn, vl], vx] w (IntIs (areaL ns ls l l.length) w) := by
  have HN := Lib.hid hn
  have HL := Lib.hid hl
  have HX := Lib.hid hx
  have hlx := hx.len
  obtain ⟨A, c, rfl⟩ := prs_form2 hn
  obtain ⟨A2, c2, rfl⟩ := prs_form2 hl
  obtain ⟨A3, c3, rfl⟩ := seq_form2 hx
  clear hn hl hx
  have h20 := ((winB_iff ns ls).1 hw).1.2
  have HSTEP := Lib.hid (fun m (h : m < l.length) => area_step hw hd h)
  have HBD := Lib.hid (fun m (h : m ≤ l.length) => area_bd hw hd m h)
  have HZ := Lib.hid (show areaL ns ls l 0 = 0 from rfl)
  clear hw hd
  generalize areaL ns ls l = S at *
  have HE := Lib.hid (fun (q : Nat) w h (hq : q < 2 * ls.length) => dEnds ls (.slice A ns.length c) (.slice A2 ls.length c2) q w h hq h20)
  unfold TwoIs at HE
  have H0 := Lib.hid (held_pair w (.slice A ns.length c) (.slice A2 ls.length c2) 78)
  go_enter Try.func69, Try.ntmps69
  go_wp2_with fail
  go_loopw [5, 14] (fun v i wr => ∃ m : Nat, m ≤ l.length ∧ i = .int .i64 m ∧ v = .int .i64 (S m) ∧ Held w wr [(w.heap.size, 0, .slice A ns.length c), (w.heap.size, 1, .slice A2 ls.length c2)]) (fun _ i _ => l.length - (intOf i).toNat)
  case atStart => exact ⟨0, Nat.zero_le _, rfl, by rw [HZ.out], H0.out⟩
  case round =>
    clear H0
    obtain ⟨m, hm, rfl, rfl, hh⟩ := hrel
    have H1 := Lib.hid hh; clear hh
    obtain ⟨A3', c3', he3, _, _, hxc⟩ := (HX.out.step H1.out.below).form
    simp only [Value.slice.injEq] at he3
    obtain ⟨rfl, -, -⟩ := he3
    have HXC := Lib.hid hxc; clear hxc
    by_cases hlt : m < l.length
    · obtain ⟨q, a, b, hq, hq2, ha, hb, ha2, hb2, oa, ob, hs⟩ := HSTEP.out m hlt
      obtain ⟨s0, s1⟩ := HBD.out m hm
      obtain ⟨s2, s3⟩ := HBD.out (m + 1) hlt
      obtain ⟨bx_, ox_, rfl, hblx, hcx⟩ := HXC.out m hlt
      rw [hq] at hcx
      obtain ⟨bn, on, c4, he, hbn, hcs⟩ := prs_at2 (HN.out.step H1.out.below) ha2
      injection he with he1 he2 he3
      subst he1
      clear he2 he3
      obtain ⟨q0, q1⟩ := hcs a ha2
      obtain ⟨q2, q3⟩ := hcs b hb2
      clear hcs
      obtain ⟨k1, k2, k3, k4⟩ := area_okb oa
      obtain ⟨l1, l2, l3, l4⟩ := area_okb ob
      obtain ⟨m1, m2⟩ := area_prod k1 k2 l3 l4
      obtain ⟨m3, m4⟩ := area_prod k3 k4 l1 l2
      generalize (atN ns a).x = ax at *
      generalize (atN ns a).y = ay at *
      generalize (atN ns b).x = bx at *
      generalize (atN ns b).y = by' at *
      have HS := Lib.hid hs; clear hs
      obtain ⟨p1, hp1⟩ : ∃ p : Int, ax * by' = p := ⟨_, rfl⟩
      obtain ⟨p2, hp2⟩ : ∃ p : Int, ay * bx = p := ⟨_, rfl⟩
      rw [hp1] at m1 m2
      rw [hp2] at m3 m4
      rw [hp1, hp2] at HS
      have e1 : IntKind.i64.wrap (ax * by') = p1 := by rw [hp1]; exact IntWalk.i64_in _ (by omega)
      have e2 : IntKind.i64.wrap (ay * bx) = p2 := by rw [hp2]; exact IntWalk.i64_in _ (by omega)
      generalize S m = s at *
      have hz1 : (m : Int) < (l.length : Int) := by omega
      have hz2 : (0 : Int) ≤ m := by omega
      have hz3 : (a : Int) < (ns.length : Int) := by omega
      have hz4 : (0 : Int) ≤ a := by omega
      have hz5 : (b : Int) < (ns.length : Int) := by omega
      have hz6 : (0 : Int) ≤ b := by omega
      clear hp1 hp2
      have e3 : IntKind.i64.wrap (p1 - p2) = p1 - p2 := IntWalk.i64_in _ (by omega)
      have e4 : IntKind.i64.wrap (s + (p1 - p2)) = s + (p1 - p2) := IntWalk.i64_in _ (by omega)
      have HEq := Lib.hid (fun w h => HE.out q w h hq2)
      rw [ha, hb] at HEq
      clear ha hb
      have H2 := Lib.hid (held_plus H1.out (gs := [(bn, on + a * 2, .int .i64 ax), (bn, on + a * 2 + 1, .int .i64 ay), (bn, on + b * 2, .int .i64 bx), (bn, on + b * 2 + 1, .int .i64 by')]) ⟨q0, q1, q2, q3, trivial⟩ ⟨hbn, hbn, hbn, hbn, trivial⟩)
      clear q0 q1 q2 q3
      obtain ⟨x0, x1, x2, x3, x4, x5, _⟩ := H2.out.1
      go_wp2_with fail
      refine (HEq.out _ (HL.out.step H2.out.below)).mono ?_
      rintro e w5 ⟨rfl, hb5⟩
      have H2 := Lib.hid (H2.out.step hb5); clear hb5 hcx x0 x1 x2 x3 x4 x5
      obtain ⟨x0, x1, x2, x3, x4, x5, _⟩ := H2.out.1
      go_wp2_with fail
      have HBH3 := Lib.hid H2.out.2.1
      refine regionW (fun W => Held _ W [(w.heap.size, 0, .slice (some ⟨bn, on, none⟩) ns.length c), (w.heap.size, 1, .slice A2 ls.length c2), (bn, on + a * 2, .int .i64 (ax)), (bn, on + a * 2 + 1, .int .i64 (ay)), (bn, on + b * 2, .int .i64 (bx)), (bn, on + b * 2 + 1, .int .i64 (by'))]) (by kernel_rfl) (Held.start H2.out.1 H2.out.2.1).drew ?_
      refine takeW (i := 0) (v := ?_) (Stable.held _ _) rfl (by kernel_rfl) (by kernel_rfl) (by kernel_rfl) (fun _ _ _ h => h) ?_ ?_
      rotate_left
      · first | (refine Or.inl ⟨by rfl, fun W hS => detR_value (w' := W) ?_ (Below.refl _ _)⟩; obtain ⟨x0, x1, x2, x3, x4, x5, _⟩ := hS.1; go_simp; first | done | with_reducible rfl) | fail
      simp only [Act.put, List.setIfInBounds_toArray, List.set_cons_zero, List.set_cons_succ]
      refine takeW (i := 1) (v := ?_) (Stable.held _ _) rfl (by kernel_rfl) (by kernel_rfl) (by kernel_rfl) (fun _ _ _ h => h) ?_ ?_
      rotate_left
      · first | (refine Or.inl ⟨by rfl, fun W hS => detR_value (w' := W) ?_ (Below.refl _ _)⟩; obtain ⟨x0, x1, x2, x3, x4, x5, _⟩ := hS.1; go_simp; first | done | with_reducible rfl) | fail
      simp only [Act.put, List.setIfInBounds_toArray, List.set_cons_zero, List.set_cons_succ]
      refine takeW (i := 2) (v := ?_) (Stable.held _ _) rfl (by kernel_rfl) (by kernel_rfl) (by kernel_rfl) (fun _ _ _ h => h) ?_ ?_
      rotate_left
      · first | (refine Or.inl ⟨by rfl, fun W hS => detR_value (w' := W) ?_ (Below.refl _ _)⟩; obtain ⟨x0, x1, x2, x3, x4, x5, _⟩ := hS.1; go_simp; first | done | with_reducible rfl) | fail
      simp only [Act.put, List.setIfInBounds_toArray, List.set_cons_zero, List.set_cons_succ]
      refine takeW (i := 3) (v := ?_) (Stable.held _ _) rfl (by kernel_rfl) (by kernel_rfl) (by kernel_rfl) (fun _ _ _ h => h) ?_ ?_
      rotate_left
      · first | (refine Or.inl ⟨by rfl, fun W hS => detR_value (w' := W) ?_ (Below.refl _ _)⟩; obtain ⟨x0, x1, x2, x3, x4, x5, _⟩ := hS.1; go_simp; first | done | with_reducible rfl) | fail
      simp only [Act.put, List.setIfInBounds_toArray, List.set_cons_zero, List.set_cons_succ]
      refine takeW (i := 4) (v := ?_) (Stable.held _ _) rfl (by kernel_rfl) (by kernel_rfl) (by kernel_rfl) (fun _ _ _ h => h) ?_ ?_
      rotate_left
      · first | (refine Or.inl ⟨by rfl, fun W hS => detR_value (w' := W) ?_ (Below.refl _ _)⟩; obtain ⟨x0, x1, x2, x3, x4, x5, _⟩ := hS.1; go_simp; first | done | with_reducible rfl) | fail
      simp only [Act.put, List.setIfInBounds_toArray, List.set_cons_zero, List.set_cons_succ]
      refine takeW (i := 5) (v := ?_) (Stable.held _ _) rfl (by kernel_rfl) (by kernel_rfl) (by kernel_rfl) (fun _ _ _ h => h) ?_ ?_
      rotate_left
      · first | (refine Or.inl ⟨by rfl, fun W hS => detR_value (w' := W) ?_ (Below.refl _ _)⟩; obtain ⟨x0, x1, x2, x3, x4, x5, _⟩ := hS.1; go_simp; first | done | with_reducible rfl) | fail
      simp only [Act.put, List.setIfInBounds_toArray, List.set_cons_zero, List.set_cons_succ]
      refine takeW (i := 6) (v := ?_) (Stable.held _ _) rfl (by kernel_rfl) (by kernel_rfl) (by kernel_rfl) (fun _ _ _ h => h) ?_ ?_
      rotate_left
      · first | (refine Or.inl ⟨by rfl, fun W hS => detR_value (w' := W) ?_ (Below.refl _ _)⟩; obtain ⟨x0, x1, x2, x3, x4, x5, _⟩ := hS.1; go_simp; first | done | with_reducible rfl) | fail
      simp only [Act.put, List.setIfInBounds_toArray, List.set_cons_zero, List.set_cons_succ]
      refine takeW (i := 7) (v := ?_) (Stable.held _ _) rfl (by kernel_rfl) (by kernel_rfl) (by kernel_rfl) (fun _ _ _ h => h) ?_ ?_
      rotate_left
      · first | (refine Or.inl ⟨by rfl, fun W hS => detR_value (w' := W) ?_ (Below.refl _ _)⟩; obtain ⟨x0, x1, x2, x3, x4, x5, _⟩ := hS.1; go_simp; first | done | with_reducible rfl) | fail
      simp only [Act.put, List.setIfInBounds_toArray, List.set_cons_zero, List.set_cons_succ]
      refine takeW (i := 8) (v := ?_) (Stable.held _ _) rfl (by kernel_rfl) (by kernel_rfl) (by kernel_rfl) (fun _ _ _ h => h) ?_ ?_
      rotate_left
      · first | (refine Or.inl ⟨by rfl, fun W hS => detR_value (w' := W) ?_ (Below.refl _ _)⟩; obtain ⟨x0, x1, x2, x3, x4, x5, _⟩ := hS.1; go_simp; first | done | with_reducible rfl) | fail
      simp only [Act.put, List.setIfInBounds_toArray, List.set_cons_zero, List.set_cons_succ]
      refine takeW (i := 9) (v := ?_) (Stable.held _ _) rfl (by kernel_rfl) (by kernel_rfl) (by kernel_rfl) (fun _ _ _ h => h) ?_ ?_
      rotate_left
      · first | (refine Or.inl ⟨by rfl, fun W hS => detR_value (w' := W) ?_ (Below.refl _ _)⟩; obtain ⟨x0, x1, x2, x3, x4, x5, _⟩ := hS.1; go_simp; first | done | with_reducible rfl) | fail
      simp only [Act.put, List.setIfInBounds_toArray, List.set_cons_zero, List.set_cons_succ]
      refine freeOr (i := 10) (j := 11) (by kernel_rfl) ?_ ?_
      · refine freeOp (i := 10) (NewB _ 56 2) (Stable.held _ _) (fun v => stable_newB _ _ _ v) rfl (by rfl) (fun W hS => freeR_new (T := 56) (n := 2) (cs := #[.int .i64 0, .int .i64 0]) (by go_simp; first | done | with_reducible rfl) hS.2.2.size rfl) (fun vf hex => ?_)
        clear hex
        simp only [Act.put, List.setIfInBounds_toArray, List.set_cons_zero, List.set_cons_succ]
        refine freeW (i := 11) (fun v => Two _ 56 (Sz 2) (Sz 2) vf v) (Stable.and (Stable.held _ _) (stable_newB _ _ _ _)) (fun v => stable_two _ _ _ _ _ _) rfl (by kernel_rfl) (by rfl) (fun W hS => freeR_after (T := 56) (n := 2) (cs := #[.int .i64 0, .int .i64 0]) (by go_simp; first | done | with_reducible rfl) hS.1.2.2.size rfl hS.2) (fun vs => ?_)
        simp only [Act.put, List.setIfInBounds_toArray, List.set_cons_zero, List.set_cons_succ]
        refine storeA (i := 12) #[.int .i64 ax, .int .i64 ay] (.inl rfl) rfl (by kernel_rfl) (by rfl) rfl (by rfl) (by rfl) HBH3.out rfl (by kernel_rfl) (by simp [Value.oneCell']) ?_
        simp only [Act.put, List.setIfInBounds_toArray, List.set_cons_zero, List.set_cons_succ]
        refine storeB (i := 13) #[.int .i64 bx, .int .i64 by'] (.inl rfl) rfl (by kernel_rfl) (by rfl) rfl (by rfl) (by rfl) HBH3.out rfl rfl (by kernel_rfl) (by simp [Value.oneCell']) ?_
        simp only [Act.put, List.setIfInBounds_toArray, List.set_cons_zero, List.set_cons_succ]
        refine doneW (by kernel_rfl) fun wH3 HG => ?_
        obtain ⟨⟨⟨⟨hH, _⟩, _⟩, _⟩, ht⟩ := HG
        obtain ⟨b1H3, b2H3, rfl, rfl, hj⟩ := Held.joined2 H2.out hH ht
        have H3 := Lib.hid hj; clear hj hH ht HBH3
        try clear x0 x1 x2 x3 x4 x5
        obtain ⟨x0, x1, x2, x3, x4, x5, x6, x7, x8, x9, _⟩ := H3.out.1
        go_wp2_with fail
        exact ⟨⟨m + 1, by omega, by go_num, by rw [HS.out], H3.out.only (fun ⟨_, _, _, _, a, b, _⟩ => ⟨a, b, trivial⟩) (fun ⟨_, _, _, _, a, b, _⟩ => ⟨a, b, trivial⟩)⟩, by simp [intOf]; omega⟩
      · refine freeOp (i := 11) (NewB _ 56 2) (Stable.held _ _) (fun v => stable_newB _ _ _ v) rfl (by rfl) (fun W hS => freeR_new (T := 56) (n := 2) (cs := #[.int .i64 0, .int .i64 0]) (by go_simp; first | done | with_reducible rfl) hS.2.2.size rfl) (fun vf hex => ?_)
        clear hex
        simp only [Act.put, List.setIfInBounds_toArray, List.set_cons_zero, List.set_cons_succ]
        refine freeW (i := 10) (fun v => Two _ 56 (Sz 2) (Sz 2) v vf) (Stable.and (Stable.held _ _) (stable_newB _ _ _ _)) (fun v => stable_two _ _ _ _ _ _) rfl (by kernel_rfl) (by rfl) (fun W hS => freeR_before (T := 56) (n := 2) (cs := #[.int .i64 0, .int .i64 0]) (by go_simp; first | done | with_reducible rfl) hS.1.2.2.size rfl hS.2) (fun vs => ?_)
        simp only [Act.put, List.setIfInBounds_toArray, List.set_cons_zero, List.set_cons_succ]
        refine storeA (i := 12) #[.int .i64 ax, .int .i64 ay] (.inr rfl) rfl (by kernel_rfl) (by rfl) rfl (by rfl) (by rfl) HBH3.out rfl (by kernel_rfl) (by simp [Value.oneCell']) ?_
        simp only [Act.put, List.setIfInBounds_toArray, List.set_cons_zero, List.set_cons_succ]
        refine storeB (i := 13) #[.int .i64 bx, .int .i64 by'] (.inr rfl) rfl (by kernel_rfl) (by rfl) rfl (by rfl) (by rfl) HBH3.out rfl rfl (by kernel_rfl) (by simp [Value.oneCell']) ?_
        simp only [Act.put, List.setIfInBounds_toArray, List.set_cons_zero, List.set_cons_succ]
        refine doneW (by kernel_rfl) fun wH3 HG => ?_
        obtain ⟨⟨⟨⟨hH, _⟩, _⟩, _⟩, ht⟩ := HG
        obtain ⟨b1H3, b2H3, rfl, rfl, hj⟩ := Held.joined2 H2.out hH ht
        have H3 := Lib.hid hj; clear hj hH ht HBH3
        try clear x0 x1 x2 x3 x4 x5
        obtain ⟨x0, x1, x2, x3, x4, x5, x6, x7, x8, x9, _⟩ := H3.out.1
        go_wp2_with fail
        exact ⟨⟨m + 1, by omega, by go_num, by rw [HS.out], H3.out.only (fun ⟨_, _, _, _, a, b, _⟩ => ⟨a, b, trivial⟩) (fun ⟨_, _, _, _, a, b, _⟩ => ⟨a, b, trivial⟩)⟩, by simp [intOf]; omega⟩
    · obtain rfl : m = l.length := by omega
      obtain ⟨x0, x1, _⟩ := H1.out.1
      go_wp2_with fail
      go_ret
      exact ⟨rfl, H1.out.below⟩
set_option maxRecDepth 100000 in
set_option maxHeartbeats 4000000 in
theorem specAlong (ns ls : List Nd) (vn vl vx : Value) (l : List Int) (w : World) (hn : Prs w vn ns) (hl : Prs w vl ls) (hx : Seq w vx l) (hw : winB ns ls = true) (hd : DartsOf ls l) (h40 : l.length ≤ 40) :
    Calls Try.prog 68 #[.agg #[vn, vl], vx] w (IntIs (areaL ns ls l l.length) w) := by
  have HN := Lib.hid hn
  have HL := Lib.hid hl
  have HX := Lib.hid hx
  have hlx := hx.len
  obtain ⟨A, c, rfl⟩ := prs_form2 hn
  obtain ⟨A2, c2, rfl⟩ := prs_form2 hl
  obtain ⟨A3, c3, rfl⟩ := seq_form2 hx
  clear hn hl hx
  have h20 := ((winB_iff ns ls).1 hw).1.2
  have HSTEP := Lib.hid (fun m (h : m < l.length) => area_step hw hd h)
  have HBD := Lib.hid (fun m (h : m ≤ l.length) => area_bd hw hd m h)
  have HZ := Lib.hid (show areaL ns ls l 0 = 0 from rfl)
  clear hw hd
  generalize areaL ns ls l = S at *
  have HE := Lib.hid (fun (q : Nat) w h (hq : q < 2 * ls.length) => sEnds ls (.slice A ns.length c) (.slice A2 ls.length c2) q w h hq h20)
  unfold TwoIs at HE
  have H0 := Lib.hid (held_pair w (.slice A ns.length c) (.slice A2 ls.length c2) 31)
  go_enter Try.func68, Try.ntmps68
  go_wp2_with fail
  go_loopw [5, 6] (fun v i wr => ∃ m : Nat, m ≤ l.length ∧ i = .int .i64 m ∧ v = .int .i64 (S m) ∧ Held w wr [(w.heap.size, 0, .slice A ns.length c), (w.heap.size, 1, .slice A2 ls.length c2)]) (fun _ i _ => l.length - (intOf i).toNat)
  case atStart => exact ⟨0, Nat.zero_le _, rfl, by rw [HZ.out], H0.out⟩
  case round =>
    clear H0
    obtain ⟨m, hm, rfl, rfl, hh⟩ := hrel
    have H1 := Lib.hid hh; clear hh
    obtain ⟨A3', c3', he3, _, _, hxc⟩ := (HX.out.step H1.out.below).form
    simp only [Value.slice.injEq] at he3
    obtain ⟨rfl, -, -⟩ := he3
    have HXC := Lib.hid hxc; clear hxc
    by_cases hlt : m < l.length
    · obtain ⟨q, a, b, hq, hq2, ha, hb, ha2, hb2, oa, ob, hs⟩ := HSTEP.out m hlt
      obtain ⟨s0, s1⟩ := HBD.out m hm
      obtain ⟨s2, s3⟩ := HBD.out (m + 1) hlt
      obtain ⟨bx_, ox_, rfl, hblx, hcx⟩ := HXC.out m hlt
      rw [hq] at hcx
      obtain ⟨bn, on, c4, he, hbn, hcs⟩ := prs_at2 (HN.out.step H1.out.below) ha2
      injection he with he1 he2 he3
      subst he1
      clear he2 he3
      obtain ⟨q0, q1⟩ := hcs a ha2
      obtain ⟨q2, q3⟩ := hcs b hb2
      clear hcs
      obtain ⟨k1, k2, k3, k4⟩ := area_okb oa
      obtain ⟨l1, l2, l3, l4⟩ := area_okb ob
      obtain ⟨m1, m2⟩ := area_prod k1 k2 l3 l4
      obtain ⟨m3, m4⟩ := area_prod k3 k4 l1 l2
      generalize (atN ns a).x = ax at *
      generalize (atN ns a).y = ay at *
      generalize (atN ns b).x = bx at *
      generalize (atN ns b).y = by' at *
      have HS := Lib.hid hs; clear hs
      obtain ⟨p1, hp1⟩ : ∃ p : Int, ax * by' = p := ⟨_, rfl⟩
      obtain ⟨p2, hp2⟩ : ∃ p : Int, ay * bx = p := ⟨_, rfl⟩
      rw [hp1] at m1 m2
      rw [hp2] at m3 m4
      rw [hp1, hp2] at HS
      have e1 : IntKind.i64.wrap (ax * by') = p1 := by rw [hp1]; exact IntWalk.i64_in _ (by omega)
      have e2 : IntKind.i64.wrap (ay * bx) = p2 := by rw [hp2]; exact IntWalk.i64_in _ (by omega)
      generalize S m = s at *
      have hz1 : (m : Int) < (l.length : Int) := by omega
      have hz2 : (0 : Int) ≤ m := by omega
      have hz3 : (a : Int) < (ns.length : Int) := by omega
      have hz4 : (0 : Int) ≤ a := by omega
      have hz5 : (b : Int) < (ns.length : Int) := by omega
      have hz6 : (0 : Int) ≤ b := by omega
      clear hp1 hp2
      have e3 : IntKind.i64.wrap (s + p1) = s + p1 := IntWalk.i64_in _ (by omega)
      have e4 : IntKind.i64.wrap (s + p1 - p2) = s + p1 - p2 := IntWalk.i64_in _ (by omega)
      have HEq := Lib.hid (fun w h => HE.out q w h hq2)
      rw [ha, hb] at HEq
      clear ha hb
      have H2 := Lib.hid (held_plus H1.out (gs := [(bx_, ox_ + m, .int .i64 (q : Int)), (bn, on + a * 2, .int .i64 ax), (bn, on + a * 2 + 1, .int .i64 ay), (bn, on + b * 2, .int .i64 bx), (bn, on + b * 2 + 1, .int .i64 by')]) ⟨hcx, q0, q1, q2, q3, trivial⟩ ⟨hblx, hbn, hbn, hbn, hbn, trivial⟩)
      clear q0 q1 q2 q3 hcx
      obtain ⟨x0, x1, x2, x3, x4, x5, x6, _⟩ := H2.out.1
      go_wp2_with fail
      clear x0 x1 x2 x3 x4 x5 x6
      refine regionD (S := fun W => Held _ W [(w.heap.size, 0, .slice (some ⟨bn, on, none⟩) ns.length c), (w.heap.size, 1, .slice A2 ls.length c2), (bx_, ox_ + m, .int .i64 (q)), (bn, on + a * 2, .int .i64 (ax)), (bn, on + a * 2 + 1, .int .i64 (ay)), (bn, on + b * 2, .int .i64 (bx)), (bn, on + b * 2 + 1, .int .i64 (by'))]) (by kernel_rfl) H2.out.drew ?_
      iterate 11 (refine takeT (v := ?_) rfl (by kernel_rfl) (by kernel_rfl) (by kernel_rfl) ?_ ?_; rotate_left; (first | (refine Or.inr ⟨by rfl, ?_⟩; with_reducible rfl) | (refine Or.inl ⟨by rfl, fun W hS => detRes_value (w' := W) ?_ hS⟩; obtain ⟨x0, x1, x2, x3, x4, x5, x6, _⟩ := hS.1; go_simp; first | done | with_reducible rfl) | (refine Or.inl ⟨by rfl, fun W hS => ?_⟩; refine detRes_call (w' := W) (f := ?_) (args := ?_) ?_ ?_; rotate_left 2; (go_simp; (refine ⟨?_, ?_⟩ <;> with_reducible rfl)); (first | (with_reducible refine (HEq.out _ (HL.out.step hS.below)).mono ?_) | fail); (first | (rintro e wn ⟨rfl, hb⟩; refine ⟨?_, hS.step hb⟩; with_reducible rfl) | (rintro e wn ⟨rfl, rfl⟩; refine ⟨?_, hS⟩; with_reducible rfl) | fail)) | fail); (simp only [Act.put, List.setIfInBounds_toArray, List.set_cons_zero, List.set_cons_succ]))
      refine doneD (by kernel_rfl) fun wH3 HS => ?_
      have H3 := Lib.hid HS; clear HS
      try clear x0 x1 x2 x3 x4 x5 x6
      obtain ⟨x0, x1, x2, x3, x4, x5, x6, _⟩ := H3.out.1
      go_wp2_with fail
      refine regionD (S := fun W => Held _ W [(w.heap.size, 0, .slice (some ⟨bn, on, none⟩) ns.length c), (w.heap.size, 1, .slice A2 ls.length c2), (bx_, ox_ + m, .int .i64 (q)), (bn, on + a * 2, .int .i64 (ax)), (bn, on + a * 2 + 1, .int .i64 (ay)), (bn, on + b * 2, .int .i64 (bx)), (bn, on + b * 2 + 1, .int .i64 (by'))]) (by kernel_rfl) H3.out.drew ?_
      iterate 30 (refine takeT (v := ?_) rfl (by kernel_rfl) (by kernel_rfl) (by kernel_rfl) ?_ ?_; rotate_left; (first | (refine Or.inr ⟨by rfl, ?_⟩; with_reducible rfl) | (refine Or.inl ⟨by rfl, fun W hS => detRes_value (w' := W) ?_ hS⟩; obtain ⟨x0, x1, x2, x3, x4, x5, x6, _⟩ := hS.1; go_simp; first | done | with_reducible rfl) | fail); (simp only [Act.put, List.setIfInBounds_toArray, List.set_cons_zero, List.set_cons_succ]))
      refine doneD (by kernel_rfl) fun wH4 HS => ?_
      have H4 := Lib.hid HS; clear HS
      try clear x0 x1 x2 x3 x4 x5 x6
      obtain ⟨x0, x1, x2, x3, x4, x5, x6, _⟩ := H4.out.1
      go_wp2_with fail
      exact ⟨⟨m + 1, by omega, by go_num, by rw [HS.out]; congr 1; omega, H4.out.only (fun ⟨a, b, _⟩ => ⟨a, b, trivial⟩) (fun ⟨a, b, _⟩ => ⟨a, b, trivial⟩)⟩, by simp [intOf]; omega⟩
    · obtain rfl : m = l.length := by omega
      obtain ⟨x0, x1, _⟩ := H1.out.1
      go_wp2_with fail
      go_ret
      exact ⟨rfl, H1.out.below⟩

theorem areaL_zero (ns ls : List Nd) (l : List Int) (h : l.length = 0) : areaL ns ls l l.length = 0 := by rw [h]; rfl
noncomputable def areaI (ns ls : List Nd) (d : Int) : Int := areaL ns ls (walkI ns ls d) (walkI ns ls d).length
end

section
open Go.RowKit
set_option linter.unusedVariables false
set_option linter.unusedSimpArgs false

theorem implAlong0 (A A2 A3 : Option Addr) (n c n2 c2 c3 : Nat) (w : World) :
    Calls Try.prog 69 #[.agg #[.slice A n c, .slice A2 n2 c2], .slice A3 0 c3] w (IntIs 0 w) := by
  go_enter Try.func69, Try.ntmps69
  go_wp2_with fail
  refine wp_loop_rounds 1 ?_
  rw [rounds_succ]
  go_wp2_with fail
  go_ret
  exact ⟨rfl, (Below.refl _ _).alloc (Nat.le_refl _) _⟩
theorem specAlong0 (A A2 A3 : Option Addr) (n c n2 c2 c3 : Nat) (w : World) :
    Calls Try.prog 68 #[.agg #[.slice A n c, .slice A2 n2 c2], .slice A3 0 c3] w (IntIs 0 w) := by
  go_enter Try.func68, Try.ntmps68
  go_wp2_with fail
  refine wp_loop_rounds 1 ?_
  rw [rounds_succ]
  go_wp2_with fail
  go_ret
  exact ⟨rfl, (Below.refl _ _).alloc (Nat.le_refl _) _⟩

theorem walk_darts {ns ls : List Nd} {d : Int} (h : (walkI ns ls d).length ≠ 0) : winB ns ls = true ∧ DartsOf ls (walkI ns ls d) :=
  ⟨(walkI_at (show 0 < (walkI ns ls d).length by omega)).1, fun i hi => (walkI_at hi).2⟩

theorem implAlongI (ns ls : List Nd) (vn vl vx : Value) (d : Int) (w : World) (hn : Prs w vn ns) (hl : Prs w vl ls) (hx : Seq w vx (walkI ns ls d)) :
    Calls Try.prog 69 #[.agg #[vn, vl], vx] w (IntIs (areaI ns ls d) w) := by
  by_cases h : (walkI ns ls d).length = 0
  · obtain ⟨A, c, rfl⟩ := prs_form2 hn
    obtain ⟨A2, c2, rfl⟩ := prs_form2 hl
    obtain ⟨A3, c3, rfl⟩ := seq_form2 hx
    rw [show areaI ns ls d = 0 from areaL_zero ns ls _ h, h]
    exact implAlong0 _ _ _ _ _ _ _ _ w
  · obtain ⟨hw, hd⟩ := walk_darts h
    exact implAlong ns ls vn vl vx _ w hn hl hx hw hd (walkI_len ns ls d)
theorem specAlongI (ns ls : List Nd) (vn vl vx : Value) (d : Int) (w : World) (hn : Prs w vn ns) (hl : Prs w vl ls) (hx : Seq w vx (walkI ns ls d)) :
    Calls Try.prog 68 #[.agg #[vn, vl], vx] w (IntIs (areaI ns ls d) w) := by
  by_cases h : (walkI ns ls d).length = 0
  · obtain ⟨A, c, rfl⟩ := prs_form2 hn
    obtain ⟨A2, c2, rfl⟩ := prs_form2 hl
    obtain ⟨A3, c3, rfl⟩ := seq_form2 hx
    rw [show areaI ns ls d = 0 from areaL_zero ns ls _ h, h]
    exact specAlong0 _ _ _ _ _ _ _ _ w
  · obtain ⟨hw, hd⟩ := walk_darts h
    exact specAlong ns ls vn vl vx _ w hn hl hx hw hd (walkI_len ns ls d)

set_option maxRecDepth 100000 in
theorem implWalkArea (ns ls : List Nd) (vn vl : Value) (d : Int) (w : World) (hn : Prs w vn ns) (hl : Prs w vl ls) :
    Calls Try.prog 27 #[.agg #[vn, vl], .int .i64 d] w (IntIs (areaI ns ls d) w) := by
  have HN := Lib.hid hn
  have HL := Lib.hid hl
  obtain ⟨A, c, rfl⟩ := prs_form2 hn
  obtain ⟨A2, c2, rfl⟩ := prs_form2 hl
  clear hn hl
  have HT := Lib.hid (fun w h1 h2 => (implWalkOf ns ls (.slice A ns.length c) (.slice A2 ls.length c2) d w h1 h2).mono (fun (e : Ending) w' ⟨v, he, hm, hb⟩ => (⟨v, he, hm.seq, hb⟩ : ∃ v, e = Ending.returned v ∧ Seq w' v (walkI ns ls d) ∧ Below w.heap.size w w')))
  have HD := Lib.hid (drawingOf_any A A2 ns.length c ls.length c2)
  unfold ValIs at HD
  have HAA := Lib.hid (fun v w h1 h2 h3 => implAlongI ns ls (.slice A ns.length c) (.slice A2 ls.length c2) v d w h1 h2 h3)
  have H0 := Lib.hid (held_pair w (.slice A ns.length c) (.slice A2 ls.length c2) 31)
  generalize areaI ns ls d = r at *
  generalize walkI ns ls d = xs at *
  go_enter Try.func27, Try.ntmps27
  go_wp2_with fail
  refine regionW (fun W => Held _ W [(w.heap.size, 0, .slice A ns.length c), (w.heap.size, 1, .slice A2 ls.length c2)]) (by kernel_rfl) H0.out.drew ?_
  refine takeW (i := 0) (v := ?_) (Stable.held _ _) rfl (by kernel_rfl) (by kernel_rfl) (by kernel_rfl) (fun _ _ _ h => h) ?_ ?_
  rotate_left
  · first | (refine Or.inl ⟨by rfl, fun W hS => detR_value (w' := W) ?_ (Below.refl _ _)⟩; have hH := hS; obtain ⟨x0, x1, _⟩ := hH.1; go_simp; first | done | with_reducible rfl) | fail
  simp only [Act.put, List.setIfInBounds_toArray, List.set_cons_zero, List.set_cons_succ]
  refine takeW (i := 1) (v := ?_) (Stable.held _ _) rfl (by kernel_rfl) (by kernel_rfl) (by kernel_rfl) (fun _ _ _ h => h) ?_ ?_
  rotate_left
  · first | (refine Or.inl ⟨by rfl, fun W hS => ?_⟩; have hH := hS; refine detR_call (w' := W) (f := ?_) (args := ?_) ?_ ?_; rotate_left 2; (go_simp; (refine ⟨?_, ?_⟩ <;> with_reducible rfl)); (first | (with_reducible refine (HD.out _).mono ?_) | fail); (first | (rintro e wn ⟨rfl, hb⟩; refine ⟨?_, hb⟩; with_reducible rfl) | (rintro e wn ⟨rfl, rfl⟩; refine ⟨?_, Below.refl _ _⟩; with_reducible rfl) | fail)) | fail
  simp only [Act.put, List.setIfInBounds_toArray, List.set_cons_zero, List.set_cons_succ]
  refine takeW (i := 2) (v := ?_) (Stable.held _ _) rfl (by kernel_rfl) (by kernel_rfl) (by kernel_rfl) (fun _ _ _ h => h) ?_ ?_
  rotate_left
  · first | (refine Or.inl ⟨by rfl, fun W hS => detR_value (w' := W) ?_ (Below.refl _ _)⟩; have hH := hS; obtain ⟨x0, x1, _⟩ := hH.1; go_simp; first | done | with_reducible rfl) | fail
  simp only [Act.put, List.setIfInBounds_toArray, List.set_cons_zero, List.set_cons_succ]
  refine takeW (i := 3) (v := ?_) (Stable.held _ _) rfl (by kernel_rfl) (by kernel_rfl) (by kernel_rfl) (fun _ _ _ h => h) ?_ ?_
  rotate_left
  · first | (refine Or.inl ⟨by rfl, fun W hS => detR_value (w' := W) ?_ (Below.refl _ _)⟩; have hH := hS; obtain ⟨x0, x1, _⟩ := hH.1; go_simp; first | done | with_reducible rfl) | fail
  simp only [Act.put, List.setIfInBounds_toArray, List.set_cons_zero, List.set_cons_succ]
  refine freeW (i := 4) (fun v W => Seq W v xs) (Stable.held _ _) (fun v => stable_seqA v xs) rfl (by kernel_rfl) (by rfl) (fun W hS => ?_) (fun v1 => ?_)
  · have hH := hS; refine freeR_call (w' := W) (f := ?_) (args := ?_) ?_ ?_; rotate_left 2; (go_simp; (refine ⟨?_, ?_⟩ <;> with_reducible rfl)); refine (HT.out _ (HN.out.step hH.below) (HL.out.step hH.below)).mono ?_; rintro e wn ⟨v, rfl, hm, hb⟩; exact ⟨v, rfl, hm, hb⟩
  simp only [Act.put, List.setIfInBounds_toArray, List.set_cons_zero, List.set_cons_succ]
  refine takeW (i := 5) (v := ?_) (Stable.and (Stable.held _ _) (stable_seqA v1 xs)) rfl (by kernel_rfl) (by kernel_rfl) (by kernel_rfl) (fun _ _ _ h => h) ?_ ?_
  rotate_left
  · first | (refine Or.inl ⟨by rfl, fun W hS => ?_⟩; obtain ⟨hH, r1⟩ := hS; refine detR_call (w' := W) (f := ?_) (args := ?_) ?_ ?_; rotate_left 2; (go_simp; (refine ⟨?_, ?_⟩ <;> with_reducible rfl)); (first | (with_reducible refine (HAA.out _ _ (HN.out.step hH.below) (HL.out.step hH.below) r1).mono ?_) | fail); (first | (rintro e wn ⟨rfl, hb⟩; refine ⟨?_, hb⟩; with_reducible rfl) | (rintro e wn ⟨rfl, rfl⟩; refine ⟨?_, Below.refl _ _⟩; with_reducible rfl) | fail)) | fail
  simp only [Act.put, List.setIfInBounds_toArray, List.set_cons_zero, List.set_cons_succ]
  refine takeW (i := 6) (v := ?_) (Stable.and (Stable.held _ _) (stable_seqA v1 xs)) rfl (by kernel_rfl) (by kernel_rfl) (by kernel_rfl) (fun _ _ _ h => h) ?_ ?_
  rotate_left
  · first | (refine Or.inl ⟨by rfl, fun W hS => detR_value (w' := W) ?_ (Below.refl _ _)⟩; obtain ⟨hH, r1⟩ := hS; obtain ⟨x0, x1, _⟩ := hH.1; go_simp; first | done | with_reducible rfl) | fail
  simp only [Act.put, List.setIfInBounds_toArray, List.set_cons_zero, List.set_cons_succ]
  refine doneW (by kernel_rfl) fun wH1 HG => ?_
  obtain ⟨hH, r1⟩ := HG
  have H1 := Lib.hid hH; clear hH
  have MH1_1 := Lib.hid r1; clear r1
  try clear x0 x1
  obtain ⟨x0, x1, _⟩ := H1.out.1
  go_wp2_with fail
  go_ret
  exact ⟨rfl, H1.out.below⟩

set_option maxRecDepth 100000 in
theorem specWalkArea (ns ls : List Nd) (vn vl : Value) (d : Int) (w : World) (hn : Prs w vn ns) (hl : Prs w vl ls) (hls : ls.length ≤ 1048576) :
    Calls Try.prog 26 #[.agg #[vn, vl], .int .i64 d] w (IntIs (areaI ns ls d) w) := by
  have HN := Lib.hid hn
  have HL := Lib.hid hl
  obtain ⟨A, c, rfl⟩ := prs_form2 hn
  obtain ⟨A2, c2, rfl⟩ := prs_form2 hl
  clear hn hl
  have HT := Lib.hid (fun w h1 h2 => (specWalkOf ns ls (.slice A ns.length c) (.slice A2 ls.length c2) d w h1 h2 hls).mono (fun (e : Ending) w' ⟨v, he, hm, hb⟩ => (⟨v, he, hm.seq, hb⟩ : ∃ v, e = Ending.returned v ∧ Seq w' v (walkI ns ls d) ∧ Below w.heap.size w w')))
  have HAA := Lib.hid (fun v w h1 h2 h3 => specAlongI ns ls (.slice A ns.length c) (.slice A2 ls.length c2) v d w h1 h2 h3)
  have H0 := Lib.hid (held_pair w (.slice A ns.length c) (.slice A2 ls.length c2) 31)
  clear hls
  generalize areaI ns ls d = r at *
  generalize walkI ns ls d = xs at *
  go_enter Try.func26, Try.ntmps26
  go_wp2_with fail
  refine regionW (fun W => Held _ W [(w.heap.size, 0, .slice A ns.length c), (w.heap.size, 1, .slice A2 ls.length c2)]) (by kernel_rfl) H0.out.drew ?_
  refine takeW (i := 0) (v := ?_) (Stable.held _ _) rfl (by kernel_rfl) (by kernel_rfl) (by kernel_rfl) (fun _ _ _ h => h) ?_ ?_
  rotate_left
  · first | (refine Or.inl ⟨by rfl, fun W hS => detR_value (w' := W) ?_ (Below.refl _ _)⟩; have hH := hS; obtain ⟨x0, x1, _⟩ := hH.1; go_simp; first | done | with_reducible rfl) | fail
  simp only [Act.put, List.setIfInBounds_toArray, List.set_cons_zero, List.set_cons_succ]
  refine takeW (i := 1) (v := ?_) (Stable.held _ _) rfl (by kernel_rfl) (by kernel_rfl) (by kernel_rfl) (fun _ _ _ h => h) ?_ ?_
  rotate_left
  · first | (refine Or.inl ⟨by rfl, fun W hS => detR_value (w' := W) ?_ (Below.refl _ _)⟩; have hH := hS; obtain ⟨x0, x1, _⟩ := hH.1; go_simp; first | done | with_reducible rfl) | fail
  simp only [Act.put, List.setIfInBounds_toArray, List.set_cons_zero, List.set_cons_succ]
  refine takeW (i := 2) (v := ?_) (Stable.held _ _) rfl (by kernel_rfl) (by kernel_rfl) (by kernel_rfl) (fun _ _ _ h => h) ?_ ?_
  rotate_left
  · first | (refine Or.inl ⟨by rfl, fun W hS => detR_value (w' := W) ?_ (Below.refl _ _)⟩; have hH := hS; obtain ⟨x0, x1, _⟩ := hH.1; go_simp; first | done | with_reducible rfl) | fail
  simp only [Act.put, List.setIfInBounds_toArray, List.set_cons_zero, List.set_cons_succ]
  refine freeW (i := 3) (fun v W => Seq W v xs) (Stable.held _ _) (fun v => stable_seqA v xs) rfl (by kernel_rfl) (by rfl) (fun W hS => ?_) (fun v1 => ?_)
  · have hH := hS; refine freeR_call (w' := W) (f := ?_) (args := ?_) ?_ ?_; rotate_left 2; (go_simp; (refine ⟨?_, ?_⟩ <;> with_reducible rfl)); refine (HT.out _ (HN.out.step hH.below) (HL.out.step hH.below)).mono ?_; rintro e wn ⟨v, rfl, hm, hb⟩; exact ⟨v, rfl, hm, hb⟩
  simp only [Act.put, List.setIfInBounds_toArray, List.set_cons_zero, List.set_cons_succ]
  refine takeW (i := 4) (v := ?_) (Stable.and (Stable.held _ _) (stable_seqA v1 xs)) rfl (by kernel_rfl) (by kernel_rfl) (by kernel_rfl) (fun _ _ _ h => h) ?_ ?_
  rotate_left
  · first | (refine Or.inl ⟨by rfl, fun W hS => ?_⟩; obtain ⟨hH, r1⟩ := hS; refine detR_call (w' := W) (f := ?_) (args := ?_) ?_ ?_; rotate_left 2; (go_simp; (refine ⟨?_, ?_⟩ <;> with_reducible rfl)); (first | (with_reducible refine (HAA.out _ _ (HN.out.step hH.below) (HL.out.step hH.below) r1).mono ?_) | fail); (first | (rintro e wn ⟨rfl, hb⟩; refine ⟨?_, hb⟩; with_reducible rfl) | (rintro e wn ⟨rfl, rfl⟩; refine ⟨?_, Below.refl _ _⟩; with_reducible rfl) | fail)) | fail
  simp only [Act.put, List.setIfInBounds_toArray, List.set_cons_zero, List.set_cons_succ]
  refine takeW (i := 5) (v := ?_) (Stable.and (Stable.held _ _) (stable_seqA v1 xs)) rfl (by kernel_rfl) (by kernel_rfl) (by kernel_rfl) (fun _ _ _ h => h) ?_ ?_
  rotate_left
  · first | (refine Or.inl ⟨by rfl, fun W hS => detR_value (w' := W) ?_ (Below.refl _ _)⟩; obtain ⟨hH, r1⟩ := hS; obtain ⟨x0, x1, _⟩ := hH.1; go_simp; first | done | with_reducible rfl) | fail
  simp only [Act.put, List.setIfInBounds_toArray, List.set_cons_zero, List.set_cons_succ]
  refine doneW (by kernel_rfl) fun wH1 HG => ?_
  obtain ⟨hH, r1⟩ := HG
  have H1 := Lib.hid hH; clear hH
  have MH1_1 := Lib.hid r1; clear r1
  try clear x0 x1
  obtain ⟨x0, x1, _⟩ := H1.out.1
  go_wp2_with fail
  go_ret
  exact ⟨rfl, H1.out.below⟩
end

end Go.Proofs.Ytghpbdgghliieac
