/-
  For every slice of bytes the law FnNodes answers true: of the three nodes drawn from it, a turn to the left is one to the right from the other side, a node between two others is between them from both sides, and of two directions one comes first just if they differ. No condition.
-/
import Derived.Test.YtemblmcfbonjoaaRows
import Derived.Test.YtemblmcfbonjoaaNodeL
import Derived.Test.YtemblmcfbonjoaaNodeN
import Derived.Test.YtemblmcfbonjoaaImplNode
import Derived.Test.YtemblmcfbonjoaaDet
import Derived.Test.YtemblmcfbonjoaaBig
import Derived.WalkKit
import Derived.ProofKit
import Derived.OpenShut
import Derived.ShutString
import Derived.ChangeOld
import Derived.Below
namespace Go.Proofs.Ytemblmcfbonjoaa.fnNodes
open Go.ChangeShapes Go.WideShapes Go.ChangeAt Go.RowKit
open Go.ChangeMaps (open_string shut_string)
set_option linter.unusedVariables false

theorem own : ownKnob Try.prog.godebug = none := by kernel_rfl
theorem laidOut : laidOutB Try.prog = true := by kernel_rfl

/-- WHAT THE WALK IS TOLD OF A SLICE OF INTEGERS THAT CAME IN: it is nil; or it leads to a row of 'cap' cells, the numbers 'zs' (the first 'len' are its elements, the rest its spare room), each fitting its kind. -/
def IsRow (k : IntKind) (w : World) (a : Option Addr) (len cap : Nat) (zs : List Int) : Prop :=
  (a = none ∧ len = 0 ∧ cap = 0 ∧ zs = []) ∨
  ∃ x, a = some x ∧ len ≤ cap ∧ cap ≤ maxLen ∧ zs.length = cap ∧ (∀ i, i < zs.length → w.cell? (x.add i) = some (.int k (zs.getD i 0))) ∧ ∀ n ∈ zs, (Lit.int k n).wf = true

set_option maxRecDepth 100000
set_option maxHeartbeats 4000000

/-! ### STEP 1: THE WALK: the Go text returns true, AND WRITES NOTHING THAT WAS THERE: 'Below w.heap.size w w'' (Derived/Below.lean: '.refl', '.alloc', '.drew', '.setCell' at a new block, '.trans'). Open each 'IsRow' by 'rcases' AHEAD of 'go_enter'; part every test ahead of the walk. -/
theorem walk (a0 : Option Addr) (len0 cap0 : Nat) (z0 : List Int) (w : World) (w0 : IsRow .u8 w a0 len0 cap0 z0) :
    Calls Try.prog 3 #[.slice a0 len0 cap0] w fun e w' => e = .returned (.bool true) ∧ Below w.heap.size w w' := by
  have HY := Lib.hid (bytesAt_of w0); clear w0
  by_cases hbig : 1048576 < len0
  · go_enter Try.func3, Try.ntmps3
    go_wp2_with fail
    refine (big_yes hbig).mono ?_
    rintro e w' ⟨rfl, rfl⟩
    go_wp2_with fail
    go_ret
    exact ⟨rfl, Below.refl _ _⟩
  · go_enter Try.func3, Try.ntmps3
    go_wp2_with fail
    refine (big_no (by omega)).mono ?_
    rintro e w' ⟨rfl, rfl⟩
    go_wp2_with fail
    have hd := (drawNodes_any (cap := cap0) HY.out).mono fun (e : Ending) w' ⟨a, b, c, ka, kb, kc, he, hb⟩ =>
      (⟨a.x, a.y, b.x, b.y, c.x, c.y, ka, kb, kc, he, hb⟩ : ∃ ax ay bx by' cx cy : Int, okB ⟨ax, ay⟩ = true ∧ okB ⟨bx, by'⟩ = true ∧ okB ⟨cx, cy⟩ = true ∧
        e = Ending.returned (.tuple #[.agg #[.int .i64 ax, .int .i64 ay], .agg #[.int .i64 bx, .int .i64 by'], .agg #[.int .i64 cx, .int .i64 cy]]) ∧ Below w.heap.size w w')
    refine hd.mono ?_
    clear hd
    rintro e w1 ⟨ax, ay, bx, by', cx, cy, ka, kb, kc, rfl, hw1⟩
    obtain ⟨a, ea⟩ : ∃ a : Nd, a = ⟨ax, ay⟩ := ⟨_, rfl⟩
    obtain ⟨b, eb⟩ : ∃ b : Nd, b = ⟨bx, by'⟩ := ⟨_, rfl⟩
    obtain ⟨c, ec⟩ : ∃ c : Nd, c = ⟨cx, cy⟩ := ⟨_, rfl⟩
    rw [← ea] at ka
    rw [← eb] at kb
    rw [← ec] at kc
    have HW1 := Lib.hid hw1; clear hw1
    have C1 := implTurnOf a b c
    have C2 := implTurnOf a c b
    have C3 := implTurnOf b c a
    rw [turnOf_swap a c b] at C2
    rw [← turnOf_round a b c] at C3
    have C4 := implLen a b
    have C5 := implLen b a
    rw [len_sym b a] at C5
    have C6 := implBetween a b c
    have C7 := implBetween b a c
    have C8 := implBetween a c b
    have C9 := implBefore a b c
    have C10 := implBefore a c b
    have C11 := implHalf a b
    have C12 := implHalf a c
    have C13 := implHalf b a
    have C14 := implNodeOk a
    have C15 := implTurnOf ⟨0, 0⟩ ⟨2, 0⟩ ⟨0, 3⟩
    rw [show turnOf ⟨0, 0⟩ ⟨2, 0⟩ ⟨0, 3⟩ = 6 from by decide] at C15
    rw [ka] at C14
    have q1 := eqNd a b
    have q2 := eqNd a c
    have f1 := before_one ka kb kc
    have f2 := len_zero a b ka kb
    have f3 : betweenB a b c = true → turnOf a b c = 0 ∧ betweenB b a c = true ∧ betweenB a c b = false ∧ a ≠ b ∧ a ≠ c := fun h =>
      ⟨between_turn h, between_sym h, between_not h, ((between_iff a b c).1 h).2.2.2.1, ((between_iff a b c).1 h).2.2.2.2.2.1⟩
    have f4 := half_ne a b
    have f5 : turnOf a b c = turnI a b c := turnOf_ok ka kb kc
    have f6 := turn_bd ka kb kc
    have f7 : 0 ≤ lenSq a b ∧ lenSq a b ≤ 800 := by
      unfold lenSq
      rw [ka, kb]
      rw [okB_iff] at ka kb
      obtain ⟨p1, p2⟩ := prod_bd (p := b.x - a.x) (q := b.x - a.x) 20 (by omega) (by omega) (by omega) (by omega)
      obtain ⟨p3, p4⟩ := prod_bd (p := b.y - a.y) (q := b.y - a.y) 20 (by omega) (by omega) (by omega) (by omega)
      have p5 : 0 ≤ (b.x - a.x) * (b.x - a.x) := by rcases Int.le_total 0 (b.x - a.x) with h | h; exact Int.mul_nonneg h h; exact Int.mul_nonneg_of_nonpos_of_nonpos h h
      have p6 : 0 ≤ (b.y - a.y) * (b.y - a.y) := by rcases Int.le_total 0 (b.y - a.y) with h | h; exact Int.mul_nonneg h h; exact Int.mul_nonneg_of_nonpos_of_nonpos h h
      simp
      omega
    rw [← f5] at f1 f6
    have H0 := Lib.hid (held3 w1 a b c 25)
    clear ka kb kc f5
    have g1 : decide (a = b) = true ↔ a = b := by simp
    have g2 : decide (a = c) = true ↔ a = c := by simp
    rw [← g1] at f2
    have f3' : betweenB a b c = true → turnOf a b c = 0 ∧ betweenB b a c = true ∧ betweenB a c b = false ∧ decide (a = b) = false ∧ decide (a = c) = false := fun h => by
      obtain ⟨k1, k2, k3, k4, k5⟩ := f3 h
      exact ⟨k1, k2, k3, by simpa using k4, by simpa using k5⟩
    have f4' : (halfI a b ≠ halfI b a) ↔ decide (a = b) = false := by rw [f4]; simp
    clear f3 f4 g1 g2
    generalize turnOf a b c = t at *
    generalize lenSq a b = l at *
    generalize decide (a = b) = d1 at *
    generalize decide (a = c) = d2 at *
    generalize betweenB a b c = b1 at *
    generalize betweenB b a c = b2 at *
    generalize betweenB a c b = b3 at *
    generalize beforeB a b c = o1 at *
    generalize beforeB a c b = o2 at *
    generalize halfI a b = h1 at *
    generalize halfI a c = h2 at *
    generalize halfI b a = h3 at *
    subst ea
    subst eb
    subst ec
    unfold Nd.val at C1 C2 C3 C4 C5 C6 C7 C8 C9 C10 C11 C12 C13 C14 C15
    simp only at C1 C2 C3 C4 C5 C6 C7 C8 C9 C10 C11 C12 C13 C14 C15 q1 q2 H0
    have D1 := Lib.hid C1; clear C1
    have D2 := Lib.hid C2; clear C2
    have D3 := Lib.hid C3; clear C3
    have D4 := Lib.hid C4; clear C4
    have D5 := Lib.hid C5; clear C5
    have D6 := Lib.hid C6; clear C6
    have D7 := Lib.hid C7; clear C7
    have D8 := Lib.hid C8; clear C8
    have D9 := Lib.hid C9; clear C9
    have D10 := Lib.hid C10; clear C10
    have D11 := Lib.hid C11; clear C11
    have D12 := Lib.hid C12; clear C12
    have D13 := Lib.hid C13; clear C13
    have D14 := Lib.hid C14; clear C14
    have D15 := Lib.hid C15; clear C15
    have n1 : IntKind.i64.wrap (-t) = -t := IntWalk.i64_in _ (by omega)
    have n2 : IntKind.i64.wrap t = t := IntWalk.i64_in _ (by omega)
    have F1 := Lib.hid f1; clear f1
    have F2 := Lib.hid f2; clear f2
    have F3 := Lib.hid f3'; clear f3'
    have F4 := Lib.hid f4'; clear f4'
    obtain ⟨t1, t2⟩ := f6
    obtain ⟨l1, l2⟩ := f7
    cases d1
    case true =>
      have hl : l = 0 := F2.out.2 rfl
      subst hl
      have hb : b1 = false := by
        cases b1
        · rfl
        · have := (F3.out rfl).2.2.2.1
          cases this
      subst hb
      have hh : h1 = h3 := by
        by_cases k : h1 = h3
        · exact k
        · have := F4.out.1 k
          cases this
      subst hh
      go_wp2_with fail
      refine (D1.out _).mono ?_
      rintro e wH1 ⟨rfl, hb⟩
      have H1 := Lib.hid ((H0.out).step hb); clear hb
      try clear x0 x1 x2 x3 x4 x5
      obtain ⟨x0, x1, x2, x3, x4, x5, _⟩ := H1.out.1
      go_wp2_with fail
      refine regionD (S := fun W => Held _ W [(w1.heap.size, 0, .int .i64 (ax)), (w1.heap.size, 1, .int .i64 (ay)), (w1.heap.size + 1, 0, .int .i64 (bx)), (w1.heap.size + 1, 1, .int .i64 (by')), (w1.heap.size + 1 + 1, 0, .int .i64 (cx)), (w1.heap.size + 1 + 1, 1, .int .i64 (cy))]) (by kernel_rfl) H1.out.drew ?_
      iterate 34 (refine takeT (v := ?_) rfl (by kernel_rfl) (by kernel_rfl) (by kernel_rfl) ?_ ?_; rotate_left; (first | (refine Or.inr ⟨by rfl, ?_⟩; with_reducible rfl) | (refine Or.inl ⟨by rfl, fun W hS => detRes_value (w' := W) ?_ hS⟩; obtain ⟨x0, x1, x2, x3, x4, x5, _⟩ := hS.1; go_simp; first | done | with_reducible rfl) | (refine Or.inl ⟨by rfl, fun W hS => ?_⟩; refine detRes_call (w' := W) (f := ?_) (args := ?_) ?_ ?_; rotate_left 2; (go_simp; (refine ⟨?_, ?_⟩ <;> with_reducible rfl)); (first | (with_reducible refine (D2.out _).mono ?_) | (with_reducible refine (D3.out _).mono ?_) | (with_reducible refine (D4.out _).mono ?_) | (with_reducible refine (D5.out _).mono ?_) | fail); (first | (rintro e wn ⟨rfl, hb⟩; refine ⟨?_, hS.step hb⟩; with_reducible rfl) | (rintro e wn ⟨rfl, rfl⟩; refine ⟨?_, hS⟩; with_reducible rfl) | fail)) | fail); (simp only [Act.put, List.setIfInBounds_toArray, List.set_cons_zero, List.set_cons_succ]))
      refine doneD (by kernel_rfl) fun wH2 HS => ?_
      have H2 := Lib.hid HS; clear HS
      try clear x0 x1 x2 x3 x4 x5
      obtain ⟨x0, x1, x2, x3, x4, x5, _⟩ := H2.out.1
      go_wp2_with fail
      refine (D6.out _).mono ?_
      rintro e wH3 ⟨rfl, hb⟩
      have H3 := Lib.hid ((H2.out).step hb); clear hb
      try clear x0 x1 x2 x3 x4 x5
      obtain ⟨x0, x1, x2, x3, x4, x5, _⟩ := H3.out.1
      go_wp2_with fail
      have H7 := H3
      refine regionD (S := fun W => Held _ W [(w1.heap.size, 0, .int .i64 (ax)), (w1.heap.size, 1, .int .i64 (ay)), (w1.heap.size + 1, 0, .int .i64 (bx)), (w1.heap.size + 1, 1, .int .i64 (by')), (w1.heap.size + 1 + 1, 0, .int .i64 (cx)), (w1.heap.size + 1 + 1, 1, .int .i64 (cy))]) (by kernel_rfl) H7.out.drew ?_
      iterate 23 (refine takeT (v := ?_) rfl (by kernel_rfl) (by kernel_rfl) (by kernel_rfl) ?_ ?_; rotate_left; (first | (refine Or.inr ⟨by rfl, ?_⟩; with_reducible rfl) | (refine Or.inl ⟨by rfl, fun W hS => detRes_value (w' := W) ?_ hS⟩; obtain ⟨x0, x1, x2, x3, x4, x5, _⟩ := hS.1; go_simp; first | done | with_reducible rfl) | (refine Or.inl ⟨by rfl, fun W hS => ?_⟩; refine detRes_call (w' := W) (f := ?_) (args := ?_) ?_ ?_; rotate_left 2; (go_simp; (refine ⟨?_, ?_⟩ <;> with_reducible rfl)); (first | (with_reducible refine (D14.out _).mono ?_) | (with_reducible refine (D11.out _).mono ?_) | (with_reducible refine (D13.out _).mono ?_) | (with_reducible refine (D15.out _).mono ?_) | fail); (first | (rintro e wn ⟨rfl, hb⟩; refine ⟨?_, hS.step hb⟩; with_reducible rfl) | (rintro e wn ⟨rfl, rfl⟩; refine ⟨?_, hS⟩; with_reducible rfl) | fail)) | fail); (simp only [Act.put, List.setIfInBounds_toArray, List.set_cons_zero, List.set_cons_succ]))
      refine doneD (by kernel_rfl) fun wH8 HS => ?_
      have H8 := Lib.hid HS; clear HS
      try clear x0 x1 x2 x3 x4 x5
      obtain ⟨x0, x1, x2, x3, x4, x5, _⟩ := H8.out.1
      go_wp2_with fail
      go_ret
      exact ⟨rfl, HW1.out.trans (H8.out.below.mono HW1.out.size)⟩
    have hl : l ≠ 0 := fun k => by have := F2.out.1 k; cases this
    have hl1 : (l == 0) = false := by rw [beq_eq_false_iff_ne]; exact hl
    have HL := Lib.hid hl; clear hl
    have hh : h1 ≠ h3 := F4.out.2 rfl
    have hh1 : (h1 == h3) = false := by rw [beq_eq_false_iff_ne]; exact hh
    have hh2 : (h1 != h3) = true := by rw [bne_iff_ne]; exact hh
    have HH := Lib.hid hh; clear hh
    cases d2
    case true =>
      have hb : b1 = false := by
        cases b1
        · rfl
        · have := (F3.out rfl).2.2.2.2
          cases this
      subst hb
      go_wp2_with fail
      refine (D1.out _).mono ?_
      rintro e wH1 ⟨rfl, hb⟩
      have H1 := Lib.hid ((H0.out).step hb); clear hb
      try clear x0 x1 x2 x3 x4 x5
      obtain ⟨x0, x1, x2, x3, x4, x5, _⟩ := H1.out.1
      go_wp2_with fail
      refine regionD (S := fun W => Held _ W [(w1.heap.size, 0, .int .i64 (ax)), (w1.heap.size, 1, .int .i64 (ay)), (w1.heap.size + 1, 0, .int .i64 (bx)), (w1.heap.size + 1, 1, .int .i64 (by')), (w1.heap.size + 1 + 1, 0, .int .i64 (cx)), (w1.heap.size + 1 + 1, 1, .int .i64 (cy))]) (by kernel_rfl) H1.out.drew ?_
      iterate 34 (refine takeT (v := ?_) rfl (by kernel_rfl) (by kernel_rfl) (by kernel_rfl) ?_ ?_; rotate_left; (first | (refine Or.inr ⟨by rfl, ?_⟩; with_reducible rfl) | (refine Or.inl ⟨by rfl, fun W hS => detRes_value (w' := W) ?_ hS⟩; obtain ⟨x0, x1, x2, x3, x4, x5, _⟩ := hS.1; go_simp; first | done | with_reducible rfl) | (refine Or.inl ⟨by rfl, fun W hS => ?_⟩; refine detRes_call (w' := W) (f := ?_) (args := ?_) ?_ ?_; rotate_left 2; (go_simp; (refine ⟨?_, ?_⟩ <;> with_reducible rfl)); (first | (with_reducible refine (D2.out _).mono ?_) | (with_reducible refine (D3.out _).mono ?_) | (with_reducible refine (D4.out _).mono ?_) | (with_reducible refine (D5.out _).mono ?_) | fail); (first | (rintro e wn ⟨rfl, hb⟩; refine ⟨?_, hS.step hb⟩; with_reducible rfl) | (rintro e wn ⟨rfl, rfl⟩; refine ⟨?_, hS⟩; with_reducible rfl) | fail)) | fail); (simp only [Act.put, List.setIfInBounds_toArray, List.set_cons_zero, List.set_cons_succ]))
      refine doneD (by kernel_rfl) fun wH2 HS => ?_
      have H2 := Lib.hid HS; clear HS
      try clear x0 x1 x2 x3 x4 x5
      obtain ⟨x0, x1, x2, x3, x4, x5, _⟩ := H2.out.1
      go_wp2_with fail
      refine (D6.out _).mono ?_
      rintro e wH3 ⟨rfl, hb⟩
      have H3 := Lib.hid ((H2.out).step hb); clear hb
      try clear x0 x1 x2 x3 x4 x5
      obtain ⟨x0, x1, x2, x3, x4, x5, _⟩ := H3.out.1
      go_wp2_with fail
      have H7 := H3
      refine regionD (S := fun W => Held _ W [(w1.heap.size, 0, .int .i64 (ax)), (w1.heap.size, 1, .int .i64 (ay)), (w1.heap.size + 1, 0, .int .i64 (bx)), (w1.heap.size + 1, 1, .int .i64 (by')), (w1.heap.size + 1 + 1, 0, .int .i64 (cx)), (w1.heap.size + 1 + 1, 1, .int .i64 (cy))]) (by kernel_rfl) H7.out.drew ?_
      iterate 23 (refine takeT (v := ?_) rfl (by kernel_rfl) (by kernel_rfl) (by kernel_rfl) ?_ ?_; rotate_left; (first | (refine Or.inr ⟨by rfl, ?_⟩; with_reducible rfl) | (refine Or.inl ⟨by rfl, fun W hS => detRes_value (w' := W) ?_ hS⟩; obtain ⟨x0, x1, x2, x3, x4, x5, _⟩ := hS.1; go_simp; first | done | with_reducible rfl) | (refine Or.inl ⟨by rfl, fun W hS => ?_⟩; refine detRes_call (w' := W) (f := ?_) (args := ?_) ?_ ?_; rotate_left 2; (go_simp; (refine ⟨?_, ?_⟩ <;> with_reducible rfl)); (first | (with_reducible refine (D14.out _).mono ?_) | (with_reducible refine (D11.out _).mono ?_) | (with_reducible refine (D13.out _).mono ?_) | (with_reducible refine (D15.out _).mono ?_) | fail); (first | (rintro e wn ⟨rfl, hb⟩; refine ⟨?_, hS.step hb⟩; with_reducible rfl) | (rintro e wn ⟨rfl, rfl⟩; refine ⟨?_, hS⟩; with_reducible rfl) | fail)) | fail); (simp only [Act.put, List.setIfInBounds_toArray, List.set_cons_zero, List.set_cons_succ]))
      refine doneD (by kernel_rfl) fun wH8 HS => ?_
      have H8 := Lib.hid HS; clear HS
      try clear x0 x1 x2 x3 x4 x5
      obtain ⟨x0, x1, x2, x3, x4, x5, _⟩ := H8.out.1
      go_wp2_with fail
      go_ret
      exact ⟨rfl, HW1.out.trans (H8.out.below.mono HW1.out.size)⟩
    cases b1
    case true =>
      obtain ⟨ht, hb2, hb3, _, _⟩ := F3.out rfl
      subst ht
      subst hb2
      subst hb3
      by_cases hq : h1 = h2
      · subst hq
        obtain ⟨p1, p2⟩ := F1.out.2.2 ⟨rfl, rfl⟩
        subst p1
        subst p2
        go_wp2_with fail
        refine (D1.out _).mono ?_
        rintro e wH1 ⟨rfl, hb⟩
        have H1 := Lib.hid ((H0.out).step hb); clear hb
        try clear x0 x1 x2 x3 x4 x5
        obtain ⟨x0, x1, x2, x3, x4, x5, _⟩ := H1.out.1
        go_wp2_with fail
        refine regionD (S := fun W => Held _ W [(w1.heap.size, 0, .int .i64 (ax)), (w1.heap.size, 1, .int .i64 (ay)), (w1.heap.size + 1, 0, .int .i64 (bx)), (w1.heap.size + 1, 1, .int .i64 (by')), (w1.heap.size + 1 + 1, 0, .int .i64 (cx)), (w1.heap.size + 1 + 1, 1, .int .i64 (cy))]) (by kernel_rfl) H1.out.drew ?_
        iterate 34 (refine takeT (v := ?_) rfl (by kernel_rfl) (by kernel_rfl) (by kernel_rfl) ?_ ?_; rotate_left; (first | (refine Or.inr ⟨by rfl, ?_⟩; with_reducible rfl) | (refine Or.inl ⟨by rfl, fun W hS => detRes_value (w' := W) ?_ hS⟩; obtain ⟨x0, x1, x2, x3, x4, x5, _⟩ := hS.1; go_simp; first | done | with_reducible rfl) | (refine Or.inl ⟨by rfl, fun W hS => ?_⟩; refine detRes_call (w' := W) (f := ?_) (args := ?_) ?_ ?_; rotate_left 2; (go_simp; (refine ⟨?_, ?_⟩ <;> with_reducible rfl)); (first | (with_reducible refine (D2.out _).mono ?_) | (with_reducible refine (D3.out _).mono ?_) | (with_reducible refine (D4.out _).mono ?_) | (with_reducible refine (D5.out _).mono ?_) | fail); (first | (rintro e wn ⟨rfl, hb⟩; refine ⟨?_, hS.step hb⟩; with_reducible rfl) | (rintro e wn ⟨rfl, rfl⟩; refine ⟨?_, hS⟩; with_reducible rfl) | fail)) | fail); (simp only [Act.put, List.setIfInBounds_toArray, List.set_cons_zero, List.set_cons_succ]))
        refine doneD (by kernel_rfl) fun wH2 HS => ?_
        have H2 := Lib.hid HS; clear HS
        try clear x0 x1 x2 x3 x4 x5
        obtain ⟨x0, x1, x2, x3, x4, x5, _⟩ := H2.out.1
        go_wp2_with fail
        refine (D6.out _).mono ?_
        rintro e wH3 ⟨rfl, hb⟩
        have H3 := Lib.hid ((H2.out).step hb); clear hb
        try clear x0 x1 x2 x3 x4 x5
        obtain ⟨x0, x1, x2, x3, x4, x5, _⟩ := H3.out.1
        go_wp2_with fail
        refine (D7.out _).mono ?_
        rintro e wH3a ⟨rfl, hb⟩
        have H3a := Lib.hid ((H3.out).step hb); clear hb
        try clear x0 x1 x2 x3 x4 x5
        obtain ⟨x0, x1, x2, x3, x4, x5, _⟩ := H3a.out.1
        go_wp2_with fail
        refine (D8.out _).mono ?_
        rintro e wH4 ⟨rfl, hb⟩
        have H4 := Lib.hid ((H3a.out).step hb); clear hb
        try clear x0 x1 x2 x3 x4 x5
        obtain ⟨x0, x1, x2, x3, x4, x5, _⟩ := H4.out.1
        go_wp2_with fail
        refine (D9.out _).mono ?_
        rintro e wH5 ⟨rfl, hb⟩
        have H5 := Lib.hid ((H4.out).step hb); clear hb
        try clear x0 x1 x2 x3 x4 x5
        obtain ⟨x0, x1, x2, x3, x4, x5, _⟩ := H5.out.1
        go_wp2_with fail
        refine (D10.out _).mono ?_
        rintro e wH6 ⟨rfl, hb⟩
        have H6 := Lib.hid ((H5.out).step hb); clear hb
        try clear x0 x1 x2 x3 x4 x5
        obtain ⟨x0, x1, x2, x3, x4, x5, _⟩ := H6.out.1
        go_wp2_with fail
        refine regionD (S := fun W => Held _ W [(w1.heap.size, 0, .int .i64 (ax)), (w1.heap.size, 1, .int .i64 (ay)), (w1.heap.size + 1, 0, .int .i64 (bx)), (w1.heap.size + 1, 1, .int .i64 (by')), (w1.heap.size + 1 + 1, 0, .int .i64 (cx)), (w1.heap.size + 1 + 1, 1, .int .i64 (cy))]) (by kernel_rfl) H6.out.drew ?_
        iterate 12 (refine takeT (v := ?_) rfl (by kernel_rfl) (by kernel_rfl) (by kernel_rfl) ?_ ?_; rotate_left; (first | (refine Or.inr ⟨by rfl, ?_⟩; with_reducible rfl) | (refine Or.inl ⟨by rfl, fun W hS => detRes_value (w' := W) ?_ hS⟩; obtain ⟨x0, x1, x2, x3, x4, x5, _⟩ := hS.1; go_simp; first | done | with_reducible rfl) | (refine Or.inl ⟨by rfl, fun W hS => ?_⟩; refine detRes_call (w' := W) (f := ?_) (args := ?_) ?_ ?_; rotate_left 2; (go_simp; (refine ⟨?_, ?_⟩ <;> with_reducible rfl)); (first | (with_reducible refine (D11.out _).mono ?_) | (with_reducible refine (D12.out _).mono ?_) | fail); (first | (rintro e wn ⟨rfl, hb⟩; refine ⟨?_, hS.step hb⟩; with_reducible rfl) | (rintro e wn ⟨rfl, rfl⟩; refine ⟨?_, hS⟩; with_reducible rfl) | fail)) | fail); (simp only [Act.put, List.setIfInBounds_toArray, List.set_cons_zero, List.set_cons_succ]))
        refine doneD (by kernel_rfl) fun wH7 HS => ?_
        have H7 := Lib.hid HS; clear HS
        try clear x0 x1 x2 x3 x4 x5
        obtain ⟨x0, x1, x2, x3, x4, x5, _⟩ := H7.out.1
        go_wp2_with fail
        refine regionD (S := fun W => Held _ W [(w1.heap.size, 0, .int .i64 (ax)), (w1.heap.size, 1, .int .i64 (ay)), (w1.heap.size + 1, 0, .int .i64 (bx)), (w1.heap.size + 1, 1, .int .i64 (by')), (w1.heap.size + 1 + 1, 0, .int .i64 (cx)), (w1.heap.size + 1 + 1, 1, .int .i64 (cy))]) (by kernel_rfl) H7.out.drew ?_
        iterate 23 (refine takeT (v := ?_) rfl (by kernel_rfl) (by kernel_rfl) (by kernel_rfl) ?_ ?_; rotate_left; (first | (refine Or.inr ⟨by rfl, ?_⟩; with_reducible rfl) | (refine Or.inl ⟨by rfl, fun W hS => detRes_value (w' := W) ?_ hS⟩; obtain ⟨x0, x1, x2, x3, x4, x5, _⟩ := hS.1; go_simp; first | done | with_reducible rfl) | (refine Or.inl ⟨by rfl, fun W hS => ?_⟩; refine detRes_call (w' := W) (f := ?_) (args := ?_) ?_ ?_; rotate_left 2; (go_simp; (refine ⟨?_, ?_⟩ <;> with_reducible rfl)); (first | (with_reducible refine (D14.out _).mono ?_) | (with_reducible refine (D11.out _).mono ?_) | (with_reducible refine (D13.out _).mono ?_) | (with_reducible refine (D15.out _).mono ?_) | fail); (first | (rintro e wn ⟨rfl, hb⟩; refine ⟨?_, hS.step hb⟩; with_reducible rfl) | (rintro e wn ⟨rfl, rfl⟩; refine ⟨?_, hS⟩; with_reducible rfl) | fail)) | fail); (simp only [Act.put, List.setIfInBounds_toArray, List.set_cons_zero, List.set_cons_succ]))
        refine doneD (by kernel_rfl) fun wH8 HS => ?_
        have H8 := Lib.hid HS; clear HS
        try clear x0 x1 x2 x3 x4 x5
        obtain ⟨x0, x1, x2, x3, x4, x5, _⟩ := H8.out.1
        go_wp2_with fail
        go_ret
        exact ⟨rfl, HW1.out.trans (H8.out.below.mono HW1.out.size)⟩
      · have hq1 : (h1 == h2) = false := by rw [beq_eq_false_iff_ne]; exact hq
        have hn : ¬(o1 = false ∧ o2 = false) := fun k => hq (F1.out.2.1 k).2
        have hm := F1.out.1
        have HQ := Lib.hid hq; clear hq
        cases o1 <;> cases o2
        · exact absurd ⟨rfl, rfl⟩ hn
        · clear hn hm
          go_wp2_with fail
          refine (D1.out _).mono ?_
          rintro e wH1 ⟨rfl, hb⟩
          have H1 := Lib.hid ((H0.out).step hb); clear hb
          try clear x0 x1 x2 x3 x4 x5
          obtain ⟨x0, x1, x2, x3, x4, x5, _⟩ := H1.out.1
          go_wp2_with fail
          refine regionD (S := fun W => Held _ W [(w1.heap.size, 0, .int .i64 (ax)), (w1.heap.size, 1, .int .i64 (ay)), (w1.heap.size + 1, 0, .int .i64 (bx)), (w1.heap.size + 1, 1, .int .i64 (by')), (w1.heap.size + 1 + 1, 0, .int .i64 (cx)), (w1.heap.size + 1 + 1, 1, .int .i64 (cy))]) (by kernel_rfl) H1.out.drew ?_
          iterate 34 (refine takeT (v := ?_) rfl (by kernel_rfl) (by kernel_rfl) (by kernel_rfl) ?_ ?_; rotate_left; (first | (refine Or.inr ⟨by rfl, ?_⟩; with_reducible rfl) | (refine Or.inl ⟨by rfl, fun W hS => detRes_value (w' := W) ?_ hS⟩; obtain ⟨x0, x1, x2, x3, x4, x5, _⟩ := hS.1; go_simp; first | done | with_reducible rfl) | (refine Or.inl ⟨by rfl, fun W hS => ?_⟩; refine detRes_call (w' := W) (f := ?_) (args := ?_) ?_ ?_; rotate_left 2; (go_simp; (refine ⟨?_, ?_⟩ <;> with_reducible rfl)); (first | (with_reducible refine (D2.out _).mono ?_) | (with_reducible refine (D3.out _).mono ?_) | (with_reducible refine (D4.out _).mono ?_) | (with_reducible refine (D5.out _).mono ?_) | fail); (first | (rintro e wn ⟨rfl, hb⟩; refine ⟨?_, hS.step hb⟩; with_reducible rfl) | (rintro e wn ⟨rfl, rfl⟩; refine ⟨?_, hS⟩; with_reducible rfl) | fail)) | fail); (simp only [Act.put, List.setIfInBounds_toArray, List.set_cons_zero, List.set_cons_succ]))
          refine doneD (by kernel_rfl) fun wH2 HS => ?_
          have H2 := Lib.hid HS; clear HS
          try clear x0 x1 x2 x3 x4 x5
          obtain ⟨x0, x1, x2, x3, x4, x5, _⟩ := H2.out.1
          go_wp2_with fail
          refine (D6.out _).mono ?_
          rintro e wH3 ⟨rfl, hb⟩
          have H3 := Lib.hid ((H2.out).step hb); clear hb
          try clear x0 x1 x2 x3 x4 x5
          obtain ⟨x0, x1, x2, x3, x4, x5, _⟩ := H3.out.1
          go_wp2_with fail
          refine (D7.out _).mono ?_
          rintro e wH3a ⟨rfl, hb⟩
          have H3a := Lib.hid ((H3.out).step hb); clear hb
          try clear x0 x1 x2 x3 x4 x5
          obtain ⟨x0, x1, x2, x3, x4, x5, _⟩ := H3a.out.1
          go_wp2_with fail
          refine (D8.out _).mono ?_
          rintro e wH4 ⟨rfl, hb⟩
          have H4 := Lib.hid ((H3a.out).step hb); clear hb
          try clear x0 x1 x2 x3 x4 x5
          obtain ⟨x0, x1, x2, x3, x4, x5, _⟩ := H4.out.1
          go_wp2_with fail
          refine (D9.out _).mono ?_
          rintro e wH5 ⟨rfl, hb⟩
          have H5 := Lib.hid ((H4.out).step hb); clear hb
          try clear x0 x1 x2 x3 x4 x5
          obtain ⟨x0, x1, x2, x3, x4, x5, _⟩ := H5.out.1
          go_wp2_with fail
          refine (D10.out _).mono ?_
          rintro e wH6 ⟨rfl, hb⟩
          have H6 := Lib.hid ((H5.out).step hb); clear hb
          try clear x0 x1 x2 x3 x4 x5
          obtain ⟨x0, x1, x2, x3, x4, x5, _⟩ := H6.out.1
          go_wp2_with fail
          refine regionD (S := fun W => Held _ W [(w1.heap.size, 0, .int .i64 (ax)), (w1.heap.size, 1, .int .i64 (ay)), (w1.heap.size + 1, 0, .int .i64 (bx)), (w1.heap.size + 1, 1, .int .i64 (by')), (w1.heap.size + 1 + 1, 0, .int .i64 (cx)), (w1.heap.size + 1 + 1, 1, .int .i64 (cy))]) (by kernel_rfl) H6.out.drew ?_
          iterate 12 (refine takeT (v := ?_) rfl (by kernel_rfl) (by kernel_rfl) (by kernel_rfl) ?_ ?_; rotate_left; (first | (refine Or.inr ⟨by rfl, ?_⟩; with_reducible rfl) | (refine Or.inl ⟨by rfl, fun W hS => detRes_value (w' := W) ?_ hS⟩; obtain ⟨x0, x1, x2, x3, x4, x5, _⟩ := hS.1; go_simp; first | done | with_reducible rfl) | (refine Or.inl ⟨by rfl, fun W hS => ?_⟩; refine detRes_call (w' := W) (f := ?_) (args := ?_) ?_ ?_; rotate_left 2; (go_simp; (refine ⟨?_, ?_⟩ <;> with_reducible rfl)); (first | (with_reducible refine (D11.out _).mono ?_) | (with_reducible refine (D12.out _).mono ?_) | fail); (first | (rintro e wn ⟨rfl, hb⟩; refine ⟨?_, hS.step hb⟩; with_reducible rfl) | (rintro e wn ⟨rfl, rfl⟩; refine ⟨?_, hS⟩; with_reducible rfl) | fail)) | fail); (simp only [Act.put, List.setIfInBounds_toArray, List.set_cons_zero, List.set_cons_succ]))
          refine doneD (by kernel_rfl) fun wH7 HS => ?_
          have H7 := Lib.hid HS; clear HS
          try clear x0 x1 x2 x3 x4 x5
          obtain ⟨x0, x1, x2, x3, x4, x5, _⟩ := H7.out.1
          go_wp2_with fail
          refine regionD (S := fun W => Held _ W [(w1.heap.size, 0, .int .i64 (ax)), (w1.heap.size, 1, .int .i64 (ay)), (w1.heap.size + 1, 0, .int .i64 (bx)), (w1.heap.size + 1, 1, .int .i64 (by')), (w1.heap.size + 1 + 1, 0, .int .i64 (cx)), (w1.heap.size + 1 + 1, 1, .int .i64 (cy))]) (by kernel_rfl) H7.out.drew ?_
          iterate 23 (refine takeT (v := ?_) rfl (by kernel_rfl) (by kernel_rfl) (by kernel_rfl) ?_ ?_; rotate_left; (first | (refine Or.inr ⟨by rfl, ?_⟩; with_reducible rfl) | (refine Or.inl ⟨by rfl, fun W hS => detRes_value (w' := W) ?_ hS⟩; obtain ⟨x0, x1, x2, x3, x4, x5, _⟩ := hS.1; go_simp; first | done | with_reducible rfl) | (refine Or.inl ⟨by rfl, fun W hS => ?_⟩; refine detRes_call (w' := W) (f := ?_) (args := ?_) ?_ ?_; rotate_left 2; (go_simp; (refine ⟨?_, ?_⟩ <;> with_reducible rfl)); (first | (with_reducible refine (D14.out _).mono ?_) | (with_reducible refine (D11.out _).mono ?_) | (with_reducible refine (D13.out _).mono ?_) | (with_reducible refine (D15.out _).mono ?_) | fail); (first | (rintro e wn ⟨rfl, hb⟩; refine ⟨?_, hS.step hb⟩; with_reducible rfl) | (rintro e wn ⟨rfl, rfl⟩; refine ⟨?_, hS⟩; with_reducible rfl) | fail)) | fail); (simp only [Act.put, List.setIfInBounds_toArray, List.set_cons_zero, List.set_cons_succ]))
          refine doneD (by kernel_rfl) fun wH8 HS => ?_
          have H8 := Lib.hid HS; clear HS
          try clear x0 x1 x2 x3 x4 x5
          obtain ⟨x0, x1, x2, x3, x4, x5, _⟩ := H8.out.1
          go_wp2_with fail
          go_ret
          exact ⟨rfl, HW1.out.trans (H8.out.below.mono HW1.out.size)⟩
        · clear hn hm
          go_wp2_with fail
          refine (D1.out _).mono ?_
          rintro e wH1 ⟨rfl, hb⟩
          have H1 := Lib.hid ((H0.out).step hb); clear hb
          try clear x0 x1 x2 x3 x4 x5
          obtain ⟨x0, x1, x2, x3, x4, x5, _⟩ := H1.out.1
          go_wp2_with fail
          refine regionD (S := fun W => Held _ W [(w1.heap.size, 0, .int .i64 (ax)), (w1.heap.size, 1, .int .i64 (ay)), (w1.heap.size + 1, 0, .int .i64 (bx)), (w1.heap.size + 1, 1, .int .i64 (by')), (w1.heap.size + 1 + 1, 0, .int .i64 (cx)), (w1.heap.size + 1 + 1, 1, .int .i64 (cy))]) (by kernel_rfl) H1.out.drew ?_
          iterate 34 (refine takeT (v := ?_) rfl (by kernel_rfl) (by kernel_rfl) (by kernel_rfl) ?_ ?_; rotate_left; (first | (refine Or.inr ⟨by rfl, ?_⟩; with_reducible rfl) | (refine Or.inl ⟨by rfl, fun W hS => detRes_value (w' := W) ?_ hS⟩; obtain ⟨x0, x1, x2, x3, x4, x5, _⟩ := hS.1; go_simp; first | done | with_reducible rfl) | (refine Or.inl ⟨by rfl, fun W hS => ?_⟩; refine detRes_call (w' := W) (f := ?_) (args := ?_) ?_ ?_; rotate_left 2; (go_simp; (refine ⟨?_, ?_⟩ <;> with_reducible rfl)); (first | (with_reducible refine (D2.out _).mono ?_) | (with_reducible refine (D3.out _).mono ?_) | (with_reducible refine (D4.out _).mono ?_) | (with_reducible refine (D5.out _).mono ?_) | fail); (first | (rintro e wn ⟨rfl, hb⟩; refine ⟨?_, hS.step hb⟩; with_reducible rfl) | (rintro e wn ⟨rfl, rfl⟩; refine ⟨?_, hS⟩; with_reducible rfl) | fail)) | fail); (simp only [Act.put, List.setIfInBounds_toArray, List.set_cons_zero, List.set_cons_succ]))
          refine doneD (by kernel_rfl) fun wH2 HS => ?_
          have H2 := Lib.hid HS; clear HS
          try clear x0 x1 x2 x3 x4 x5
          obtain ⟨x0, x1, x2, x3, x4, x5, _⟩ := H2.out.1
          go_wp2_with fail
          refine (D6.out _).mono ?_
          rintro e wH3 ⟨rfl, hb⟩
          have H3 := Lib.hid ((H2.out).step hb); clear hb
          try clear x0 x1 x2 x3 x4 x5
          obtain ⟨x0, x1, x2, x3, x4, x5, _⟩ := H3.out.1
          go_wp2_with fail
          refine (D7.out _).mono ?_
          rintro e wH3a ⟨rfl, hb⟩
          have H3a := Lib.hid ((H3.out).step hb); clear hb
          try clear x0 x1 x2 x3 x4 x5
          obtain ⟨x0, x1, x2, x3, x4, x5, _⟩ := H3a.out.1
          go_wp2_with fail
          refine (D8.out _).mono ?_
          rintro e wH4 ⟨rfl, hb⟩
          have H4 := Lib.hid ((H3a.out).step hb); clear hb
          try clear x0 x1 x2 x3 x4 x5
          obtain ⟨x0, x1, x2, x3, x4, x5, _⟩ := H4.out.1
          go_wp2_with fail
          refine (D9.out _).mono ?_
          rintro e wH5 ⟨rfl, hb⟩
          have H5 := Lib.hid ((H4.out).step hb); clear hb
          try clear x0 x1 x2 x3 x4 x5
          obtain ⟨x0, x1, x2, x3, x4, x5, _⟩ := H5.out.1
          go_wp2_with fail
          refine (D10.out _).mono ?_
          rintro e wH6 ⟨rfl, hb⟩
          have H6 := Lib.hid ((H5.out).step hb); clear hb
          try clear x0 x1 x2 x3 x4 x5
          obtain ⟨x0, x1, x2, x3, x4, x5, _⟩ := H6.out.1
          go_wp2_with fail
          refine regionD (S := fun W => Held _ W [(w1.heap.size, 0, .int .i64 (ax)), (w1.heap.size, 1, .int .i64 (ay)), (w1.heap.size + 1, 0, .int .i64 (bx)), (w1.heap.size + 1, 1, .int .i64 (by')), (w1.heap.size + 1 + 1, 0, .int .i64 (cx)), (w1.heap.size + 1 + 1, 1, .int .i64 (cy))]) (by kernel_rfl) H6.out.drew ?_
          iterate 12 (refine takeT (v := ?_) rfl (by kernel_rfl) (by kernel_rfl) (by kernel_rfl) ?_ ?_; rotate_left; (first | (refine Or.inr ⟨by rfl, ?_⟩; with_reducible rfl) | (refine Or.inl ⟨by rfl, fun W hS => detRes_value (w' := W) ?_ hS⟩; obtain ⟨x0, x1, x2, x3, x4, x5, _⟩ := hS.1; go_simp; first | done | with_reducible rfl) | (refine Or.inl ⟨by rfl, fun W hS => ?_⟩; refine detRes_call (w' := W) (f := ?_) (args := ?_) ?_ ?_; rotate_left 2; (go_simp; (refine ⟨?_, ?_⟩ <;> with_reducible rfl)); (first | (with_reducible refine (D11.out _).mono ?_) | (with_reducible refine (D12.out _).mono ?_) | fail); (first | (rintro e wn ⟨rfl, hb⟩; refine ⟨?_, hS.step hb⟩; with_reducible rfl) | (rintro e wn ⟨rfl, rfl⟩; refine ⟨?_, hS⟩; with_reducible rfl) | fail)) | fail); (simp only [Act.put, List.setIfInBounds_toArray, List.set_cons_zero, List.set_cons_succ]))
          refine doneD (by kernel_rfl) fun wH7 HS => ?_
          have H7 := Lib.hid HS; clear HS
          try clear x0 x1 x2 x3 x4 x5
          obtain ⟨x0, x1, x2, x3, x4, x5, _⟩ := H7.out.1
          go_wp2_with fail
          refine regionD (S := fun W => Held _ W [(w1.heap.size, 0, .int .i64 (ax)), (w1.heap.size, 1, .int .i64 (ay)), (w1.heap.size + 1, 0, .int .i64 (bx)), (w1.heap.size + 1, 1, .int .i64 (by')), (w1.heap.size + 1 + 1, 0, .int .i64 (cx)), (w1.heap.size + 1 + 1, 1, .int .i64 (cy))]) (by kernel_rfl) H7.out.drew ?_
          iterate 23 (refine takeT (v := ?_) rfl (by kernel_rfl) (by kernel_rfl) (by kernel_rfl) ?_ ?_; rotate_left; (first | (refine Or.inr ⟨by rfl, ?_⟩; with_reducible rfl) | (refine Or.inl ⟨by rfl, fun W hS => detRes_value (w' := W) ?_ hS⟩; obtain ⟨x0, x1, x2, x3, x4, x5, _⟩ := hS.1; go_simp; first | done | with_reducible rfl) | (refine Or.inl ⟨by rfl, fun W hS => ?_⟩; refine detRes_call (w' := W) (f := ?_) (args := ?_) ?_ ?_; rotate_left 2; (go_simp; (refine ⟨?_, ?_⟩ <;> with_reducible rfl)); (first | (with_reducible refine (D14.out _).mono ?_) | (with_reducible refine (D11.out _).mono ?_) | (with_reducible refine (D13.out _).mono ?_) | (with_reducible refine (D15.out _).mono ?_) | fail); (first | (rintro e wn ⟨rfl, hb⟩; refine ⟨?_, hS.step hb⟩; with_reducible rfl) | (rintro e wn ⟨rfl, rfl⟩; refine ⟨?_, hS⟩; with_reducible rfl) | fail)) | fail); (simp only [Act.put, List.setIfInBounds_toArray, List.set_cons_zero, List.set_cons_succ]))
          refine doneD (by kernel_rfl) fun wH8 HS => ?_
          have H8 := Lib.hid HS; clear HS
          try clear x0 x1 x2 x3 x4 x5
          obtain ⟨x0, x1, x2, x3, x4, x5, _⟩ := H8.out.1
          go_wp2_with fail
          go_ret
          exact ⟨rfl, HW1.out.trans (H8.out.below.mono HW1.out.size)⟩
        · exact absurd ⟨rfl, rfl⟩ hm
    by_cases ht : t = 0
    · subst ht
      by_cases hq : h1 = h2
      · subst hq
        obtain ⟨p1, p2⟩ := F1.out.2.2 ⟨rfl, rfl⟩
        subst p1
        subst p2
        go_wp2_with fail
        refine (D1.out _).mono ?_
        rintro e wH1 ⟨rfl, hb⟩
        have H1 := Lib.hid ((H0.out).step hb); clear hb
        try clear x0 x1 x2 x3 x4 x5
        obtain ⟨x0, x1, x2, x3, x4, x5, _⟩ := H1.out.1
        go_wp2_with fail
        refine regionD (S := fun W => Held _ W [(w1.heap.size, 0, .int .i64 (ax)), (w1.heap.size, 1, .int .i64 (ay)), (w1.heap.size + 1, 0, .int .i64 (bx)), (w1.heap.size + 1, 1, .int .i64 (by')), (w1.heap.size + 1 + 1, 0, .int .i64 (cx)), (w1.heap.size + 1 + 1, 1, .int .i64 (cy))]) (by kernel_rfl) H1.out.drew ?_
        iterate 34 (refine takeT (v := ?_) rfl (by kernel_rfl) (by kernel_rfl) (by kernel_rfl) ?_ ?_; rotate_left; (first | (refine Or.inr ⟨by rfl, ?_⟩; with_reducible rfl) | (refine Or.inl ⟨by rfl, fun W hS => detRes_value (w' := W) ?_ hS⟩; obtain ⟨x0, x1, x2, x3, x4, x5, _⟩ := hS.1; go_simp; first | done | with_reducible rfl) | (refine Or.inl ⟨by rfl, fun W hS => ?_⟩; refine detRes_call (w' := W) (f := ?_) (args := ?_) ?_ ?_; rotate_left 2; (go_simp; (refine ⟨?_, ?_⟩ <;> with_reducible rfl)); (first | (with_reducible refine (D2.out _).mono ?_) | (with_reducible refine (D3.out _).mono ?_) | (with_reducible refine (D4.out _).mono ?_) | (with_reducible refine (D5.out _).mono ?_) | fail); (first | (rintro e wn ⟨rfl, hb⟩; refine ⟨?_, hS.step hb⟩; with_reducible rfl) | (rintro e wn ⟨rfl, rfl⟩; refine ⟨?_, hS⟩; with_reducible rfl) | fail)) | fail); (simp only [Act.put, List.setIfInBounds_toArray, List.set_cons_zero, List.set_cons_succ]))
        refine doneD (by kernel_rfl) fun wH2 HS => ?_
        have H2 := Lib.hid HS; clear HS
        try clear x0 x1 x2 x3 x4 x5
        obtain ⟨x0, x1, x2, x3, x4, x5, _⟩ := H2.out.1
        go_wp2_with fail
        refine (D6.out _).mono ?_
        rintro e wH3 ⟨rfl, hb⟩
        have H3 := Lib.hid ((H2.out).step hb); clear hb
        try clear x0 x1 x2 x3 x4 x5
        obtain ⟨x0, x1, x2, x3, x4, x5, _⟩ := H3.out.1
        go_wp2_with fail
        have H4 := H3
        refine (D9.out _).mono ?_
        rintro e wH5 ⟨rfl, hb⟩
        have H5 := Lib.hid ((H4.out).step hb); clear hb
        try clear x0 x1 x2 x3 x4 x5
        obtain ⟨x0, x1, x2, x3, x4, x5, _⟩ := H5.out.1
        go_wp2_with fail
        refine (D10.out _).mono ?_
        rintro e wH6 ⟨rfl, hb⟩
        have H6 := Lib.hid ((H5.out).step hb); clear hb
        try clear x0 x1 x2 x3 x4 x5
        obtain ⟨x0, x1, x2, x3, x4, x5, _⟩ := H6.out.1
        go_wp2_with fail
        refine regionD (S := fun W => Held _ W [(w1.heap.size, 0, .int .i64 (ax)), (w1.heap.size, 1, .int .i64 (ay)), (w1.heap.size + 1, 0, .int .i64 (bx)), (w1.heap.size + 1, 1, .int .i64 (by')), (w1.heap.size + 1 + 1, 0, .int .i64 (cx)), (w1.heap.size + 1 + 1, 1, .int .i64 (cy))]) (by kernel_rfl) H6.out.drew ?_
        iterate 12 (refine takeT (v := ?_) rfl (by kernel_rfl) (by kernel_rfl) (by kernel_rfl) ?_ ?_; rotate_left; (first | (refine Or.inr ⟨by rfl, ?_⟩; with_reducible rfl) | (refine Or.inl ⟨by rfl, fun W hS => detRes_value (w' := W) ?_ hS⟩; obtain ⟨x0, x1, x2, x3, x4, x5, _⟩ := hS.1; go_simp; first | done | with_reducible rfl) | (refine Or.inl ⟨by rfl, fun W hS => ?_⟩; refine detRes_call (w' := W) (f := ?_) (args := ?_) ?_ ?_; rotate_left 2; (go_simp; (refine ⟨?_, ?_⟩ <;> with_reducible rfl)); (first | (with_reducible refine (D11.out _).mono ?_) | (with_reducible refine (D12.out _).mono ?_) | fail); (first | (rintro e wn ⟨rfl, hb⟩; refine ⟨?_, hS.step hb⟩; with_reducible rfl) | (rintro e wn ⟨rfl, rfl⟩; refine ⟨?_, hS⟩; with_reducible rfl) | fail)) | fail); (simp only [Act.put, List.setIfInBounds_toArray, List.set_cons_zero, List.set_cons_succ]))
        refine doneD (by kernel_rfl) fun wH7 HS => ?_
        have H7 := Lib.hid HS; clear HS
        try clear x0 x1 x2 x3 x4 x5
        obtain ⟨x0, x1, x2, x3, x4, x5, _⟩ := H7.out.1
        go_wp2_with fail
        refine regionD (S := fun W => Held _ W [(w1.heap.size, 0, .int .i64 (ax)), (w1.heap.size, 1, .int .i64 (ay)), (w1.heap.size + 1, 0, .int .i64 (bx)), (w1.heap.size + 1, 1, .int .i64 (by')), (w1.heap.size + 1 + 1, 0, .int .i64 (cx)), (w1.heap.size + 1 + 1, 1, .int .i64 (cy))]) (by kernel_rfl) H7.out.drew ?_
        iterate 23 (refine takeT (v := ?_) rfl (by kernel_rfl) (by kernel_rfl) (by kernel_rfl) ?_ ?_; rotate_left; (first | (refine Or.inr ⟨by rfl, ?_⟩; with_reducible rfl) | (refine Or.inl ⟨by rfl, fun W hS => detRes_value (w' := W) ?_ hS⟩; obtain ⟨x0, x1, x2, x3, x4, x5, _⟩ := hS.1; go_simp; first | done | with_reducible rfl) | (refine Or.inl ⟨by rfl, fun W hS => ?_⟩; refine detRes_call (w' := W) (f := ?_) (args := ?_) ?_ ?_; rotate_left 2; (go_simp; (refine ⟨?_, ?_⟩ <;> with_reducible rfl)); (first | (with_reducible refine (D14.out _).mono ?_) | (with_reducible refine (D11.out _).mono ?_) | (with_reducible refine (D13.out _).mono ?_) | (with_reducible refine (D15.out _).mono ?_) | fail); (first | (rintro e wn ⟨rfl, hb⟩; refine ⟨?_, hS.step hb⟩; with_reducible rfl) | (rintro e wn ⟨rfl, rfl⟩; refine ⟨?_, hS⟩; with_reducible rfl) | fail)) | fail); (simp only [Act.put, List.setIfInBounds_toArray, List.set_cons_zero, List.set_cons_succ]))
        refine doneD (by kernel_rfl) fun wH8 HS => ?_
        have H8 := Lib.hid HS; clear HS
        try clear x0 x1 x2 x3 x4 x5
        obtain ⟨x0, x1, x2, x3, x4, x5, _⟩ := H8.out.1
        go_wp2_with fail
        go_ret
        exact ⟨rfl, HW1.out.trans (H8.out.below.mono HW1.out.size)⟩
      · have hq1 : (h1 == h2) = false := by rw [beq_eq_false_iff_ne]; exact hq
        have hn : ¬(o1 = false ∧ o2 = false) := fun k => hq (F1.out.2.1 k).2
        have hm := F1.out.1
        have HQ := Lib.hid hq; clear hq
        cases o1 <;> cases o2
        · exact absurd ⟨rfl, rfl⟩ hn
        · clear hn hm
          go_wp2_with fail
          refine (D1.out _).mono ?_
          rintro e wH1 ⟨rfl, hb⟩
          have H1 := Lib.hid ((H0.out).step hb); clear hb
          try clear x0 x1 x2 x3 x4 x5
          obtain ⟨x0, x1, x2, x3, x4, x5, _⟩ := H1.out.1
          go_wp2_with fail
          refine regionD (S := fun W => Held _ W [(w1.heap.size, 0, .int .i64 (ax)), (w1.heap.size, 1, .int .i64 (ay)), (w1.heap.size + 1, 0, .int .i64 (bx)), (w1.heap.size + 1, 1, .int .i64 (by')), (w1.heap.size + 1 + 1, 0, .int .i64 (cx)), (w1.heap.size + 1 + 1, 1, .int .i64 (cy))]) (by kernel_rfl) H1.out.drew ?_
          iterate 34 (refine takeT (v := ?_) rfl (by kernel_rfl) (by kernel_rfl) (by kernel_rfl) ?_ ?_; rotate_left; (first | (refine Or.inr ⟨by rfl, ?_⟩; with_reducible rfl) | (refine Or.inl ⟨by rfl, fun W hS => detRes_value (w' := W) ?_ hS⟩; obtain ⟨x0, x1, x2, x3, x4, x5, _⟩ := hS.1; go_simp; first | done | with_reducible rfl) | (refine Or.inl ⟨by rfl, fun W hS => ?_⟩; refine detRes_call (w' := W) (f := ?_) (args := ?_) ?_ ?_; rotate_left 2; (go_simp; (refine ⟨?_, ?_⟩ <;> with_reducible rfl)); (first | (with_reducible refine (D2.out _).mono ?_) | (with_reducible refine (D3.out _).mono ?_) | (with_reducible refine (D4.out _).mono ?_) | (with_reducible refine (D5.out _).mono ?_) | fail); (first | (rintro e wn ⟨rfl, hb⟩; refine ⟨?_, hS.step hb⟩; with_reducible rfl) | (rintro e wn ⟨rfl, rfl⟩; refine ⟨?_, hS⟩; with_reducible rfl) | fail)) | fail); (simp only [Act.put, List.setIfInBounds_toArray, List.set_cons_zero, List.set_cons_succ]))
          refine doneD (by kernel_rfl) fun wH2 HS => ?_
          have H2 := Lib.hid HS; clear HS
          try clear x0 x1 x2 x3 x4 x5
          obtain ⟨x0, x1, x2, x3, x4, x5, _⟩ := H2.out.1
          go_wp2_with fail
          refine (D6.out _).mono ?_
          rintro e wH3 ⟨rfl, hb⟩
          have H3 := Lib.hid ((H2.out).step hb); clear hb
          try clear x0 x1 x2 x3 x4 x5
          obtain ⟨x0, x1, x2, x3, x4, x5, _⟩ := H3.out.1
          go_wp2_with fail
          have H4 := H3
          refine (D9.out _).mono ?_
          rintro e wH5 ⟨rfl, hb⟩
          have H5 := Lib.hid ((H4.out).step hb); clear hb
          try clear x0 x1 x2 x3 x4 x5
          obtain ⟨x0, x1, x2, x3, x4, x5, _⟩ := H5.out.1
          go_wp2_with fail
          refine (D10.out _).mono ?_
          rintro e wH6 ⟨rfl, hb⟩
          have H6 := Lib.hid ((H5.out).step hb); clear hb
          try clear x0 x1 x2 x3 x4 x5
          obtain ⟨x0, x1, x2, x3, x4, x5, _⟩ := H6.out.1
          go_wp2_with fail
          refine regionD (S := fun W => Held _ W [(w1.heap.size, 0, .int .i64 (ax)), (w1.heap.size, 1, .int .i64 (ay)), (w1.heap.size + 1, 0, .int .i64 (bx)), (w1.heap.size + 1, 1, .int .i64 (by')), (w1.heap.size + 1 + 1, 0, .int .i64 (cx)), (w1.heap.size + 1 + 1, 1, .int .i64 (cy))]) (by kernel_rfl) H6.out.drew ?_
          iterate 12 (refine takeT (v := ?_) rfl (by kernel_rfl) (by kernel_rfl) (by kernel_rfl) ?_ ?_; rotate_left; (first | (refine Or.inr ⟨by rfl, ?_⟩; with_reducible rfl) | (refine Or.inl ⟨by rfl, fun W hS => detRes_value (w' := W) ?_ hS⟩; obtain ⟨x0, x1, x2, x3, x4, x5, _⟩ := hS.1; go_simp; first | done | with_reducible rfl) | (refine Or.inl ⟨by rfl, fun W hS => ?_⟩; refine detRes_call (w' := W) (f := ?_) (args := ?_) ?_ ?_; rotate_left 2; (go_simp; (refine ⟨?_, ?_⟩ <;> with_reducible rfl)); (first | (with_reducible refine (D11.out _).mono ?_) | (with_reducible refine (D12.out _).mono ?_) | fail); (first | (rintro e wn ⟨rfl, hb⟩; refine ⟨?_, hS.step hb⟩; with_reducible rfl) | (rintro e wn ⟨rfl, rfl⟩; refine ⟨?_, hS⟩; with_reducible rfl) | fail)) | fail); (simp only [Act.put, List.setIfInBounds_toArray, List.set_cons_zero, List.set_cons_succ]))
          refine doneD (by kernel_rfl) fun wH7 HS => ?_
          have H7 := Lib.hid HS; clear HS
          try clear x0 x1 x2 x3 x4 x5
          obtain ⟨x0, x1, x2, x3, x4, x5, _⟩ := H7.out.1
          go_wp2_with fail
          refine regionD (S := fun W => Held _ W [(w1.heap.size, 0, .int .i64 (ax)), (w1.heap.size, 1, .int .i64 (ay)), (w1.heap.size + 1, 0, .int .i64 (bx)), (w1.heap.size + 1, 1, .int .i64 (by')), (w1.heap.size + 1 + 1, 0, .int .i64 (cx)), (w1.heap.size + 1 + 1, 1, .int .i64 (cy))]) (by kernel_rfl) H7.out.drew ?_
          iterate 23 (refine takeT (v := ?_) rfl (by kernel_rfl) (by kernel_rfl) (by kernel_rfl) ?_ ?_; rotate_left; (first | (refine Or.inr ⟨by rfl, ?_⟩; with_reducible rfl) | (refine Or.inl ⟨by rfl, fun W hS => detRes_value (w' := W) ?_ hS⟩; obtain ⟨x0, x1, x2, x3, x4, x5, _⟩ := hS.1; go_simp; first | done | with_reducible rfl) | (refine Or.inl ⟨by rfl, fun W hS => ?_⟩; refine detRes_call (w' := W) (f := ?_) (args := ?_) ?_ ?_; rotate_left 2; (go_simp; (refine ⟨?_, ?_⟩ <;> with_reducible rfl)); (first | (with_reducible refine (D14.out _).mono ?_) | (with_reducible refine (D11.out _).mono ?_) | (with_reducible refine (D13.out _).mono ?_) | (with_reducible refine (D15.out _).mono ?_) | fail); (first | (rintro e wn ⟨rfl, hb⟩; refine ⟨?_, hS.step hb⟩; with_reducible rfl) | (rintro e wn ⟨rfl, rfl⟩; refine ⟨?_, hS⟩; with_reducible rfl) | fail)) | fail); (simp only [Act.put, List.setIfInBounds_toArray, List.set_cons_zero, List.set_cons_succ]))
          refine doneD (by kernel_rfl) fun wH8 HS => ?_
          have H8 := Lib.hid HS; clear HS
          try clear x0 x1 x2 x3 x4 x5
          obtain ⟨x0, x1, x2, x3, x4, x5, _⟩ := H8.out.1
          go_wp2_with fail
          go_ret
          exact ⟨rfl, HW1.out.trans (H8.out.below.mono HW1.out.size)⟩
        · clear hn hm
          go_wp2_with fail
          refine (D1.out _).mono ?_
          rintro e wH1 ⟨rfl, hb⟩
          have H1 := Lib.hid ((H0.out).step hb); clear hb
          try clear x0 x1 x2 x3 x4 x5
          obtain ⟨x0, x1, x2, x3, x4, x5, _⟩ := H1.out.1
          go_wp2_with fail
          refine regionD (S := fun W => Held _ W [(w1.heap.size, 0, .int .i64 (ax)), (w1.heap.size, 1, .int .i64 (ay)), (w1.heap.size + 1, 0, .int .i64 (bx)), (w1.heap.size + 1, 1, .int .i64 (by')), (w1.heap.size + 1 + 1, 0, .int .i64 (cx)), (w1.heap.size + 1 + 1, 1, .int .i64 (cy))]) (by kernel_rfl) H1.out.drew ?_
          iterate 34 (refine takeT (v := ?_) rfl (by kernel_rfl) (by kernel_rfl) (by kernel_rfl) ?_ ?_; rotate_left; (first | (refine Or.inr ⟨by rfl, ?_⟩; with_reducible rfl) | (refine Or.inl ⟨by rfl, fun W hS => detRes_value (w' := W) ?_ hS⟩; obtain ⟨x0, x1, x2, x3, x4, x5, _⟩ := hS.1; go_simp; first | done | with_reducible rfl) | (refine Or.inl ⟨by rfl, fun W hS => ?_⟩; refine detRes_call (w' := W) (f := ?_) (args := ?_) ?_ ?_; rotate_left 2; (go_simp; (refine ⟨?_, ?_⟩ <;> with_reducible rfl)); (first | (with_reducible refine (D2.out _).mono ?_) | (with_reducible refine (D3.out _).mono ?_) | (with_reducible refine (D4.out _).mono ?_) | (with_reducible refine (D5.out _).mono ?_) | fail); (first | (rintro e wn ⟨rfl, hb⟩; refine ⟨?_, hS.step hb⟩; with_reducible rfl) | (rintro e wn ⟨rfl, rfl⟩; refine ⟨?_, hS⟩; with_reducible rfl) | fail)) | fail); (simp only [Act.put, List.setIfInBounds_toArray, List.set_cons_zero, List.set_cons_succ]))
          refine doneD (by kernel_rfl) fun wH2 HS => ?_
          have H2 := Lib.hid HS; clear HS
          try clear x0 x1 x2 x3 x4 x5
          obtain ⟨x0, x1, x2, x3, x4, x5, _⟩ := H2.out.1
          go_wp2_with fail
          refine (D6.out _).mono ?_
          rintro e wH3 ⟨rfl, hb⟩
          have H3 := Lib.hid ((H2.out).step hb); clear hb
          try clear x0 x1 x2 x3 x4 x5
          obtain ⟨x0, x1, x2, x3, x4, x5, _⟩ := H3.out.1
          go_wp2_with fail
          have H4 := H3
          refine (D9.out _).mono ?_
          rintro e wH5 ⟨rfl, hb⟩
          have H5 := Lib.hid ((H4.out).step hb); clear hb
          try clear x0 x1 x2 x3 x4 x5
          obtain ⟨x0, x1, x2, x3, x4, x5, _⟩ := H5.out.1
          go_wp2_with fail
          refine (D10.out _).mono ?_
          rintro e wH6 ⟨rfl, hb⟩
          have H6 := Lib.hid ((H5.out).step hb); clear hb
          try clear x0 x1 x2 x3 x4 x5
          obtain ⟨x0, x1, x2, x3, x4, x5, _⟩ := H6.out.1
          go_wp2_with fail
          refine regionD (S := fun W => Held _ W [(w1.heap.size, 0, .int .i64 (ax)), (w1.heap.size, 1, .int .i64 (ay)), (w1.heap.size + 1, 0, .int .i64 (bx)), (w1.heap.size + 1, 1, .int .i64 (by')), (w1.heap.size + 1 + 1, 0, .int .i64 (cx)), (w1.heap.size + 1 + 1, 1, .int .i64 (cy))]) (by kernel_rfl) H6.out.drew ?_
          iterate 12 (refine takeT (v := ?_) rfl (by kernel_rfl) (by kernel_rfl) (by kernel_rfl) ?_ ?_; rotate_left; (first | (refine Or.inr ⟨by rfl, ?_⟩; with_reducible rfl) | (refine Or.inl ⟨by rfl, fun W hS => detRes_value (w' := W) ?_ hS⟩; obtain ⟨x0, x1, x2, x3, x4, x5, _⟩ := hS.1; go_simp; first | done | with_reducible rfl) | (refine Or.inl ⟨by rfl, fun W hS => ?_⟩; refine detRes_call (w' := W) (f := ?_) (args := ?_) ?_ ?_; rotate_left 2; (go_simp; (refine ⟨?_, ?_⟩ <;> with_reducible rfl)); (first | (with_reducible refine (D11.out _).mono ?_) | (with_reducible refine (D12.out _).mono ?_) | fail); (first | (rintro e wn ⟨rfl, hb⟩; refine ⟨?_, hS.step hb⟩; with_reducible rfl) | (rintro e wn ⟨rfl, rfl⟩; refine ⟨?_, hS⟩; with_reducible rfl) | fail)) | fail); (simp only [Act.put, List.setIfInBounds_toArray, List.set_cons_zero, List.set_cons_succ]))
          refine doneD (by kernel_rfl) fun wH7 HS => ?_
          have H7 := Lib.hid HS; clear HS
          try clear x0 x1 x2 x3 x4 x5
          obtain ⟨x0, x1, x2, x3, x4, x5, _⟩ := H7.out.1
          go_wp2_with fail
          refine regionD (S := fun W => Held _ W [(w1.heap.size, 0, .int .i64 (ax)), (w1.heap.size, 1, .int .i64 (ay)), (w1.heap.size + 1, 0, .int .i64 (bx)), (w1.heap.size + 1, 1, .int .i64 (by')), (w1.heap.size + 1 + 1, 0, .int .i64 (cx)), (w1.heap.size + 1 + 1, 1, .int .i64 (cy))]) (by kernel_rfl) H7.out.drew ?_
          iterate 23 (refine takeT (v := ?_) rfl (by kernel_rfl) (by kernel_rfl) (by kernel_rfl) ?_ ?_; rotate_left; (first | (refine Or.inr ⟨by rfl, ?_⟩; with_reducible rfl) | (refine Or.inl ⟨by rfl, fun W hS => detRes_value (w' := W) ?_ hS⟩; obtain ⟨x0, x1, x2, x3, x4, x5, _⟩ := hS.1; go_simp; first | done | with_reducible rfl) | (refine Or.inl ⟨by rfl, fun W hS => ?_⟩; refine detRes_call (w' := W) (f := ?_) (args := ?_) ?_ ?_; rotate_left 2; (go_simp; (refine ⟨?_, ?_⟩ <;> with_reducible rfl)); (first | (with_reducible refine (D14.out _).mono ?_) | (with_reducible refine (D11.out _).mono ?_) | (with_reducible refine (D13.out _).mono ?_) | (with_reducible refine (D15.out _).mono ?_) | fail); (first | (rintro e wn ⟨rfl, hb⟩; refine ⟨?_, hS.step hb⟩; with_reducible rfl) | (rintro e wn ⟨rfl, rfl⟩; refine ⟨?_, hS⟩; with_reducible rfl) | fail)) | fail); (simp only [Act.put, List.setIfInBounds_toArray, List.set_cons_zero, List.set_cons_succ]))
          refine doneD (by kernel_rfl) fun wH8 HS => ?_
          have H8 := Lib.hid HS; clear HS
          try clear x0 x1 x2 x3 x4 x5
          obtain ⟨x0, x1, x2, x3, x4, x5, _⟩ := H8.out.1
          go_wp2_with fail
          go_ret
          exact ⟨rfl, HW1.out.trans (H8.out.below.mono HW1.out.size)⟩
        · exact absurd ⟨rfl, rfl⟩ hm
    · have ht1 : (t == 0) = false := by rw [beq_eq_false_iff_ne]; exact ht
      have hn : ¬(o1 = false ∧ o2 = false) := fun k => ht (F1.out.2.1 k).1
      have hm := F1.out.1
      have HT := Lib.hid ht; clear ht
      cases o1 <;> cases o2
      · exact absurd ⟨rfl, rfl⟩ hn
      · clear hn hm
        go_wp2_with fail
        refine (D1.out _).mono ?_
        rintro e wH1 ⟨rfl, hb⟩
        have H1 := Lib.hid ((H0.out).step hb); clear hb
        try clear x0 x1 x2 x3 x4 x5
        obtain ⟨x0, x1, x2, x3, x4, x5, _⟩ := H1.out.1
        go_wp2_with fail
        refine regionD (S := fun W => Held _ W [(w1.heap.size, 0, .int .i64 (ax)), (w1.heap.size, 1, .int .i64 (ay)), (w1.heap.size + 1, 0, .int .i64 (bx)), (w1.heap.size + 1, 1, .int .i64 (by')), (w1.heap.size + 1 + 1, 0, .int .i64 (cx)), (w1.heap.size + 1 + 1, 1, .int .i64 (cy))]) (by kernel_rfl) H1.out.drew ?_
        iterate 34 (refine takeT (v := ?_) rfl (by kernel_rfl) (by kernel_rfl) (by kernel_rfl) ?_ ?_; rotate_left; (first | (refine Or.inr ⟨by rfl, ?_⟩; with_reducible rfl) | (refine Or.inl ⟨by rfl, fun W hS => detRes_value (w' := W) ?_ hS⟩; obtain ⟨x0, x1, x2, x3, x4, x5, _⟩ := hS.1; go_simp; first | done | with_reducible rfl) | (refine Or.inl ⟨by rfl, fun W hS => ?_⟩; refine detRes_call (w' := W) (f := ?_) (args := ?_) ?_ ?_; rotate_left 2; (go_simp; (refine ⟨?_, ?_⟩ <;> with_reducible rfl)); (first | (with_reducible refine (D2.out _).mono ?_) | (with_reducible refine (D3.out _).mono ?_) | (with_reducible refine (D4.out _).mono ?_) | (with_reducible refine (D5.out _).mono ?_) | fail); (first | (rintro e wn ⟨rfl, hb⟩; refine ⟨?_, hS.step hb⟩; with_reducible rfl) | (rintro e wn ⟨rfl, rfl⟩; refine ⟨?_, hS⟩; with_reducible rfl) | fail)) | fail); (simp only [Act.put, List.setIfInBounds_toArray, List.set_cons_zero, List.set_cons_succ]))
        refine doneD (by kernel_rfl) fun wH2 HS => ?_
        have H2 := Lib.hid HS; clear HS
        try clear x0 x1 x2 x3 x4 x5
        obtain ⟨x0, x1, x2, x3, x4, x5, _⟩ := H2.out.1
        go_wp2_with fail
        refine (D6.out _).mono ?_
        rintro e wH3 ⟨rfl, hb⟩
        have H3 := Lib.hid ((H2.out).step hb); clear hb
        try clear x0 x1 x2 x3 x4 x5
        obtain ⟨x0, x1, x2, x3, x4, x5, _⟩ := H3.out.1
        go_wp2_with fail
        have H4 := H3
        refine (D9.out _).mono ?_
        rintro e wH5 ⟨rfl, hb⟩
        have H5 := Lib.hid ((H4.out).step hb); clear hb
        try clear x0 x1 x2 x3 x4 x5
        obtain ⟨x0, x1, x2, x3, x4, x5, _⟩ := H5.out.1
        go_wp2_with fail
        refine (D10.out _).mono ?_
        rintro e wH6 ⟨rfl, hb⟩
        have H6 := Lib.hid ((H5.out).step hb); clear hb
        try clear x0 x1 x2 x3 x4 x5
        obtain ⟨x0, x1, x2, x3, x4, x5, _⟩ := H6.out.1
        go_wp2_with fail
        refine regionD (S := fun W => Held _ W [(w1.heap.size, 0, .int .i64 (ax)), (w1.heap.size, 1, .int .i64 (ay)), (w1.heap.size + 1, 0, .int .i64 (bx)), (w1.heap.size + 1, 1, .int .i64 (by')), (w1.heap.size + 1 + 1, 0, .int .i64 (cx)), (w1.heap.size + 1 + 1, 1, .int .i64 (cy))]) (by kernel_rfl) H6.out.drew ?_
        iterate 12 (refine takeT (v := ?_) rfl (by kernel_rfl) (by kernel_rfl) (by kernel_rfl) ?_ ?_; rotate_left; (first | (refine Or.inr ⟨by rfl, ?_⟩; with_reducible rfl) | (refine Or.inl ⟨by rfl, fun W hS => detRes_value (w' := W) ?_ hS⟩; obtain ⟨x0, x1, x2, x3, x4, x5, _⟩ := hS.1; go_simp; first | done | with_reducible rfl) | (refine Or.inl ⟨by rfl, fun W hS => ?_⟩; refine detRes_call (w' := W) (f := ?_) (args := ?_) ?_ ?_; rotate_left 2; (go_simp; (refine ⟨?_, ?_⟩ <;> with_reducible rfl)); (first | (with_reducible refine (D11.out _).mono ?_) | (with_reducible refine (D12.out _).mono ?_) | fail); (first | (rintro e wn ⟨rfl, hb⟩; refine ⟨?_, hS.step hb⟩; with_reducible rfl) | (rintro e wn ⟨rfl, rfl⟩; refine ⟨?_, hS⟩; with_reducible rfl) | fail)) | fail); (simp only [Act.put, List.setIfInBounds_toArray, List.set_cons_zero, List.set_cons_succ]))
        refine doneD (by kernel_rfl) fun wH7 HS => ?_
        have H7 := Lib.hid HS; clear HS
        try clear x0 x1 x2 x3 x4 x5
        obtain ⟨x0, x1, x2, x3, x4, x5, _⟩ := H7.out.1
        go_wp2_with fail
        refine regionD (S := fun W => Held _ W [(w1.heap.size, 0, .int .i64 (ax)), (w1.heap.size, 1, .int .i64 (ay)), (w1.heap.size + 1, 0, .int .i64 (bx)), (w1.heap.size + 1, 1, .int .i64 (by')), (w1.heap.size + 1 + 1, 0, .int .i64 (cx)), (w1.heap.size + 1 + 1, 1, .int .i64 (cy))]) (by kernel_rfl) H7.out.drew ?_
        iterate 23 (refine takeT (v := ?_) rfl (by kernel_rfl) (by kernel_rfl) (by kernel_rfl) ?_ ?_; rotate_left; (first | (refine Or.inr ⟨by rfl, ?_⟩; with_reducible rfl) | (refine Or.inl ⟨by rfl, fun W hS => detRes_value (w' := W) ?_ hS⟩; obtain ⟨x0, x1, x2, x3, x4, x5, _⟩ := hS.1; go_simp; first | done | with_reducible rfl) | (refine Or.inl ⟨by rfl, fun W hS => ?_⟩; refine detRes_call (w' := W) (f := ?_) (args := ?_) ?_ ?_; rotate_left 2; (go_simp; (refine ⟨?_, ?_⟩ <;> with_reducible rfl)); (first | (with_reducible refine (D14.out _).mono ?_) | (with_reducible refine (D11.out _).mono ?_) | (with_reducible refine (D13.out _).mono ?_) | (with_reducible refine (D15.out _).mono ?_) | fail); (first | (rintro e wn ⟨rfl, hb⟩; refine ⟨?_, hS.step hb⟩; with_reducible rfl) | (rintro e wn ⟨rfl, rfl⟩; refine ⟨?_, hS⟩; with_reducible rfl) | fail)) | fail); (simp only [Act.put, List.setIfInBounds_toArray, List.set_cons_zero, List.set_cons_succ]))
        refine doneD (by kernel_rfl) fun wH8 HS => ?_
        have H8 := Lib.hid HS; clear HS
        try clear x0 x1 x2 x3 x4 x5
        obtain ⟨x0, x1, x2, x3, x4, x5, _⟩ := H8.out.1
        go_wp2_with fail
        go_ret
        exact ⟨rfl, HW1.out.trans (H8.out.below.mono HW1.out.size)⟩
      · clear hn hm
        go_wp2_with fail
        refine (D1.out _).mono ?_
        rintro e wH1 ⟨rfl, hb⟩
        have H1 := Lib.hid ((H0.out).step hb); clear hb
        try clear x0 x1 x2 x3 x4 x5
        obtain ⟨x0, x1, x2, x3, x4, x5, _⟩ := H1.out.1
        go_wp2_with fail
        refine regionD (S := fun W => Held _ W [(w1.heap.size, 0, .int .i64 (ax)), (w1.heap.size, 1, .int .i64 (ay)), (w1.heap.size + 1, 0, .int .i64 (bx)), (w1.heap.size + 1, 1, .int .i64 (by')), (w1.heap.size + 1 + 1, 0, .int .i64 (cx)), (w1.heap.size + 1 + 1, 1, .int .i64 (cy))]) (by kernel_rfl) H1.out.drew ?_
        iterate 34 (refine takeT (v := ?_) rfl (by kernel_rfl) (by kernel_rfl) (by kernel_rfl) ?_ ?_; rotate_left; (first | (refine Or.inr ⟨by rfl, ?_⟩; with_reducible rfl) | (refine Or.inl ⟨by rfl, fun W hS => detRes_value (w' := W) ?_ hS⟩; obtain ⟨x0, x1, x2, x3, x4, x5, _⟩ := hS.1; go_simp; first | done | with_reducible rfl) | (refine Or.inl ⟨by rfl, fun W hS => ?_⟩; refine detRes_call (w' := W) (f := ?_) (args := ?_) ?_ ?_; rotate_left 2; (go_simp; (refine ⟨?_, ?_⟩ <;> with_reducible rfl)); (first | (with_reducible refine (D2.out _).mono ?_) | (with_reducible refine (D3.out _).mono ?_) | (with_reducible refine (D4.out _).mono ?_) | (with_reducible refine (D5.out _).mono ?_) | fail); (first | (rintro e wn ⟨rfl, hb⟩; refine ⟨?_, hS.step hb⟩; with_reducible rfl) | (rintro e wn ⟨rfl, rfl⟩; refine ⟨?_, hS⟩; with_reducible rfl) | fail)) | fail); (simp only [Act.put, List.setIfInBounds_toArray, List.set_cons_zero, List.set_cons_succ]))
        refine doneD (by kernel_rfl) fun wH2 HS => ?_
        have H2 := Lib.hid HS; clear HS
        try clear x0 x1 x2 x3 x4 x5
        obtain ⟨x0, x1, x2, x3, x4, x5, _⟩ := H2.out.1
        go_wp2_with fail
        refine (D6.out _).mono ?_
        rintro e wH3 ⟨rfl, hb⟩
        have H3 := Lib.hid ((H2.out).step hb); clear hb
        try clear x0 x1 x2 x3 x4 x5
        obtain ⟨x0, x1, x2, x3, x4, x5, _⟩ := H3.out.1
        go_wp2_with fail
        have H4 := H3
        refine (D9.out _).mono ?_
        rintro e wH5 ⟨rfl, hb⟩
        have H5 := Lib.hid ((H4.out).step hb); clear hb
        try clear x0 x1 x2 x3 x4 x5
        obtain ⟨x0, x1, x2, x3, x4, x5, _⟩ := H5.out.1
        go_wp2_with fail
        refine (D10.out _).mono ?_
        rintro e wH6 ⟨rfl, hb⟩
        have H6 := Lib.hid ((H5.out).step hb); clear hb
        try clear x0 x1 x2 x3 x4 x5
        obtain ⟨x0, x1, x2, x3, x4, x5, _⟩ := H6.out.1
        go_wp2_with fail
        refine regionD (S := fun W => Held _ W [(w1.heap.size, 0, .int .i64 (ax)), (w1.heap.size, 1, .int .i64 (ay)), (w1.heap.size + 1, 0, .int .i64 (bx)), (w1.heap.size + 1, 1, .int .i64 (by')), (w1.heap.size + 1 + 1, 0, .int .i64 (cx)), (w1.heap.size + 1 + 1, 1, .int .i64 (cy))]) (by kernel_rfl) H6.out.drew ?_
        iterate 12 (refine takeT (v := ?_) rfl (by kernel_rfl) (by kernel_rfl) (by kernel_rfl) ?_ ?_; rotate_left; (first | (refine Or.inr ⟨by rfl, ?_⟩; with_reducible rfl) | (refine Or.inl ⟨by rfl, fun W hS => detRes_value (w' := W) ?_ hS⟩; obtain ⟨x0, x1, x2, x3, x4, x5, _⟩ := hS.1; go_simp; first | done | with_reducible rfl) | (refine Or.inl ⟨by rfl, fun W hS => ?_⟩; refine detRes_call (w' := W) (f := ?_) (args := ?_) ?_ ?_; rotate_left 2; (go_simp; (refine ⟨?_, ?_⟩ <;> with_reducible rfl)); (first | (with_reducible refine (D11.out _).mono ?_) | (with_reducible refine (D12.out _).mono ?_) | fail); (first | (rintro e wn ⟨rfl, hb⟩; refine ⟨?_, hS.step hb⟩; with_reducible rfl) | (rintro e wn ⟨rfl, rfl⟩; refine ⟨?_, hS⟩; with_reducible rfl) | fail)) | fail); (simp only [Act.put, List.setIfInBounds_toArray, List.set_cons_zero, List.set_cons_succ]))
        refine doneD (by kernel_rfl) fun wH7 HS => ?_
        have H7 := Lib.hid HS; clear HS
        try clear x0 x1 x2 x3 x4 x5
        obtain ⟨x0, x1, x2, x3, x4, x5, _⟩ := H7.out.1
        go_wp2_with fail
        refine regionD (S := fun W => Held _ W [(w1.heap.size, 0, .int .i64 (ax)), (w1.heap.size, 1, .int .i64 (ay)), (w1.heap.size + 1, 0, .int .i64 (bx)), (w1.heap.size + 1, 1, .int .i64 (by')), (w1.heap.size + 1 + 1, 0, .int .i64 (cx)), (w1.heap.size + 1 + 1, 1, .int .i64 (cy))]) (by kernel_rfl) H7.out.drew ?_
        iterate 23 (refine takeT (v := ?_) rfl (by kernel_rfl) (by kernel_rfl) (by kernel_rfl) ?_ ?_; rotate_left; (first | (refine Or.inr ⟨by rfl, ?_⟩; with_reducible rfl) | (refine Or.inl ⟨by rfl, fun W hS => detRes_value (w' := W) ?_ hS⟩; obtain ⟨x0, x1, x2, x3, x4, x5, _⟩ := hS.1; go_simp; first | done | with_reducible rfl) | (refine Or.inl ⟨by rfl, fun W hS => ?_⟩; refine detRes_call (w' := W) (f := ?_) (args := ?_) ?_ ?_; rotate_left 2; (go_simp; (refine ⟨?_, ?_⟩ <;> with_reducible rfl)); (first | (with_reducible refine (D14.out _).mono ?_) | (with_reducible refine (D11.out _).mono ?_) | (with_reducible refine (D13.out _).mono ?_) | (with_reducible refine (D15.out _).mono ?_) | fail); (first | (rintro e wn ⟨rfl, hb⟩; refine ⟨?_, hS.step hb⟩; with_reducible rfl) | (rintro e wn ⟨rfl, rfl⟩; refine ⟨?_, hS⟩; with_reducible rfl) | fail)) | fail); (simp only [Act.put, List.setIfInBounds_toArray, List.set_cons_zero, List.set_cons_succ]))
        refine doneD (by kernel_rfl) fun wH8 HS => ?_
        have H8 := Lib.hid HS; clear HS
        try clear x0 x1 x2 x3 x4 x5
        obtain ⟨x0, x1, x2, x3, x4, x5, _⟩ := H8.out.1
        go_wp2_with fail
        go_ret
        exact ⟨rfl, HW1.out.trans (H8.out.below.mono HW1.out.size)⟩
      · exact absurd ⟨rfl, rfl⟩ hm

/-! ### THE ROW's STEP: WRITTEN OUT: LEAVE IT -/
set_option maxRecDepth 100000 in
theorem lifted (os : Os) (started : os.Started) (H : Type) (enc : TypeId × Value → H) :
    ReturnsInHanded {} Try.checked os 3 .any (Rows.fnNodesSpec.pre6 enc Try.prog Try.f3 Rows.fnNodesRow.domain false) (Rows.fnNodesSpec.post enc Try.prog Try.f3 false true false false) := by
  refine returnsInHanded_of_change (C := Try.checked) own started (by kernel_rfl) Try.func3
    (ChangeSpec.witness6 (enc := enc) (C := Try.checked) false ⟨#[], #[.slice none 0 0], []⟩ 8 (by kernel_rfl) (by kernel_rfl) (by kernel_rfl) (by kernel_rfl)) ?_
  intro W base args ds gs before hval0 hW hcnd _
  have hval : ∀ (j : Nat) t v, Try.f3.params[j]? = some t → args[j]? = some v → Value.okWide Try.prog W .any base t v := hval0
  have hW' := hW
  obtain ⟨p, q, hA0, hV, rfl, hfz, hnd⟩ := hW
  have hA : DataW.TrodAll enc Try.prog W 0 (fun _ => true) true Try.f3.params.toList args.toList ds p := hA0
  rw [Try.params3] at hA hval
  obtain ⟨v0, vs0, d0, ds0, p0, q0, hargs, rfl, rfl, h0, r0⟩ := trodAll_cons hA
  obtain ⟨rfl, rfl, rfl⟩ := trodAll_nil r0
  obtain rfl : args = #[v0] := by cases args; simp_all
  obtain ⟨rfl, rfl⟩ := trodVars_none hV
  obtain ⟨a0, len0, cap0, rfl⟩ := okWide_slice Try.underlying22 (hval 0 22 v0 rfl rfl)
  have k0 := h0
  have lt0 : ∀ x ∈ p0, x.block < W.heap.size := by obtain ⟨m, hm⟩ := k0; exact DataW.trod_lt m _ _ _ hm
  obtain ⟨z0, w0⟩ : ∃ zs, IsRow .u8 W a0 len0 cap0 zs := by
    obtain ⟨fuel, hf⟩ := h0
    rcases open_ints Try.underlying22 Try.underlying5 (by kernel_rfl) hf with ⟨hcs, _⟩ | ⟨x, l, c, zs, hcs, _, hl, hm, hz, _, hcell, hwz⟩
    · simp [Value.cells] at hcs
      obtain ⟨rfl, rfl, rfl⟩ := hcs
      exact ⟨[], .inl ⟨rfl, rfl, rfl, rfl⟩⟩
    · simp [Value.cells] at hcs
      obtain ⟨rfl, rfl, rfl⟩ := hcs
      exact ⟨zs, .inr ⟨_, rfl, hl, hm, by simpa using hz, hcell, hwz⟩⟩
  clear hA0 hval0
  refine (walk a0 len0 cap0 z0 W w0).mono fun e W' ⟨he, bel⟩ => ?_
  subst he
  exact ⟨_, rfl, _, _, _, [], _, [], hW', trodAll_mk1 (shut_bool Try.underlying4 _), (trodAll_cons_mk (Below.trod laidOut (by kernel_rfl) (of_decide_eq_true (by kernel_rfl)) k0 bel lt0) trodAll_mk0), rfl, bel.frame _, fun h => by cases h⟩

theorem over : Rows.fnNodesRow.holds Try.pinned (OpenSpec.ofChange Rows.fnNodesSpec) :=
  OpenClaim.holds_of_wide 3 Try.f3 rfl rfl rfl rfl rfl rfl rfl ⟨rfl, rfl, rfl, rfl, rfl⟩ rfl rfl rfl rfl rfl (by kernel_rfl) Try.func3 (by kernel_rfl)
    (of_decide_eq_true (by kernel_rfl)) (by unfold Func.isWrapper; first | (rw [if_pos (by decide +kernel)]; kernel_rfl) | (rw [if_neg (by decide +kernel)]; exact ⟨rfl, rfl⟩))
    (fun os started H enc _ => lifted os started H enc)

/-- ████ THE STATEMENT ████ -/
theorem proved : Rows.FnNodesSaid := over
#print axioms proved
end Go.Proofs.Ytemblmcfbonjoaa.fnNodes
