/-
  Memory of which only a stretch of blocks has turned; markWindow.
-/
import Derived.Test.YtfppnaknnijobaaMarkW
import Derived.Test.YtfppnaknnijobaaLawI
namespace Go.Proofs.Ytfppnaknnijobaa
open Go.RowKit
set_option linter.unusedVariables false
set_option linter.unusedSimpArgs false

/-- From w to w' only blocks from Lo on and before Hi have turned. -/
structure Turn (Lo Hi : Nat) (w w' : World) : Prop where
  os : w'.os = w.os
  tape : w'.tape = w.tape
  output : w'.output = w.output
  size : w.heap.size ≤ w'.heap.size
  block : ∀ i, i < w.heap.size → (i < Lo ∨ Hi ≤ i) → w'.heap[i]? = w.heap[i]?

theorem Turn.of_below {Lo Hi : Nat} {w w' : World} (h : Below w.heap.size w w') : Turn Lo Hi w w' := ⟨h.os, h.tape, h.output, h.size, fun i hi _ => h.block i hi⟩
theorem Turn.trans {Lo Hi : Nat} {w w1 w2 : World} (a : Turn Lo Hi w w1) (b : Turn Lo Hi w1 w2) : Turn Lo Hi w w2 :=
  ⟨b.os.trans a.os, b.tape.trans a.tape, b.output.trans a.output, Nat.le_trans a.size b.size, fun i hi h => (b.block i (Nat.lt_of_lt_of_le hi a.size) h).trans (a.block i hi h)⟩
theorem Turn.of_grown {Lo Hi : Nat} {w w' : World} {row : Option Nat} (h : w.grownBy w' row) (hr : ∀ g, row = some g → Lo ≤ g ∧ g < Hi) : Turn Lo Hi w w' :=
  ⟨h.os, h.tape, h.output, h.size, fun i hi ho => h.block i hi (fun e => by have := hr i e.symm; omega)⟩
theorem Ints.turn {Lo Hi B : Nat} {w w' : World} {v : Value} {xs : List Int} (h : Ints w B v xs) (t : Turn Lo Hi w w') (hk : ∀ k, v.ownBlock = some k → k < Lo ∨ Hi ≤ k) : Ints w' B v xs := by
  refine ⟨h.1, ?_⟩
  rcases h.2 with h0 | ⟨g, cap, cur, hv, hb, hg, r⟩
  · exact .inl h0
  · exact .inr ⟨g, cap, cur, hv, hb, (t.block g (lt_of_block hg) (hk g (by rw [hv]; rfl))).trans hg, r⟩
def Out (Lo Hi : Nat) : List (Nat × Nat × Value) → Prop
  | [] => True
  | (b, _, _) :: fs => (b < Lo ∨ Hi ≤ b) ∧ Out Lo Hi fs
theorem Cs.turn {Lo Hi : Nat} {W W' : World} (t : Turn Lo Hi W W') : ∀ {fs : List (Nat × Nat × Value)}, Out Lo Hi fs → Bs W.heap.size fs → Cs W fs → Cs W' fs
  | [], _, _, _ => trivial
  | (_, _, _) :: _, ho, hb, hc => ⟨(World.cell?_of_block (t.block _ hb.1 ho.1)).trans hc.1, Cs.turn t ho.2 hb.2 hc.2⟩
theorem Held.turn {Lo Hi : Nat} {w W W' : World} {fs : List (Nat × Nat × Value)} (h : Held w W fs) (t : Turn Lo Hi W W') (ho : Out Lo Hi fs) (hLo : w.heap.size ≤ Lo) : Held w W' fs :=
  ⟨h.1.turn t ho h.2.1, h.2.1.mono t.size, h.2.2.trans ⟨t.os, t.tape, t.output, t.size, fun k hk => t.block k (by have := h.2.2.size; omega) (.inl (by omega))⟩⟩
theorem Mine.grown {w w' : World} {B : Nat} {T : TypeId} {v : Value} {xs : List Nd} {row : Option Nat} (h : Mine w B T v xs) (hg : w.grownBy w' row) (hr : ∀ g, row = some g → g < B) : Mine w' B T v xs := by
  obtain ⟨A, c, n, rfl, hl, hc, hx⟩ := h
  refine ⟨A, c, n, rfl, hl, hc, fun h0 => ?_⟩
  obtain ⟨g, rfl, hB, hn, hh⟩ := hx h0
  exact ⟨g, rfl, hB, hn, hh.keep (hg.block g hh.lt fun e => by have := hr g e.symm; omega)⟩

/-- A window whose memory lies in the blocks from Lo on and before Hi. -/
def WinOwn (w : World) (Lo Hi : Nat) (v1 v2 : Value) (ns ls : List Nd) : Prop :=
  ∃ B, Mine w Lo 49 v1 ns ∧ Lo ≤ B ∧ (∀ g c n, v1 = .slice (some ⟨g, 0, none⟩) n c → 0 < n → g < B) ∧ Mine w B 66 v2 ls ∧
    (∀ g c n, v1 = .slice (some ⟨g, 0, none⟩) n c → 0 < n → g < Hi) ∧ (∀ g c n, v2 = .slice (some ⟨g, 0, none⟩) n c → 0 < n → g < Hi)
theorem Mine.top {w : World} {B : Nat} {T : TypeId} {v : Value} {xs : List Nd} (h : Mine w B T v xs) : ∀ g c n, v = .slice (some ⟨g, 0, none⟩) n c → 0 < n → g < w.heap.size := by
  obtain ⟨A, c, n, rfl, hl, hc, hx⟩ := h
  intro g c' n' e h0
  injection e with e1 e2 e3
  obtain ⟨g', e', _, _, hh⟩ := hx (by omega)
  rw [e1] at e'
  injection e' with e'
  injection e' with e'
  rw [e']; exact hh.lt
theorem WinOwn.step {w w' : World} {Lo Hi : Nat} {v1 v2 : Value} {ns ls : List Nd} (h : WinOwn w Lo Hi v1 v2 ns ls) (hb : Below w.heap.size w w') : WinOwn w' Lo Hi v1 v2 ns ls := by
  obtain ⟨B, h1, h2, h3, h4, h5⟩ := h
  exact ⟨B, h1.below hb, h2, h3, h4.below hb, h5⟩

theorem markWindow_any {w : World} {Lo Hi : Nat} {v1 v2 : Value} {ns ls : List Nd} (k0 : Nat) (h : WinOwn w Lo Hi v1 v2 ns ls) (hHi : Hi ≤ w.heap.size) (h1 : ns.length ≤ 1048576) (h2 : ls.length ≤ 1048576) (hk : k0 ≤ 1000) :
    Calls Try.prog 23 #[.agg #[v1, v2], .int .i64 k0] w fun e w' => e = .returned (.int .i64 ((k0 + 2 * ns.length + 2 * ls.length : Nat) : Int)) ∧ Turn Lo Hi w w' := by
  obtain ⟨B, hm1, hLB, hs, hm2, ht1, ht2⟩ := h
  obtain ⟨A1, c1, rfl⟩ := hm1.form
  obtain ⟨A2, c2, rfl⟩ := hm2.form
  have b0 : Below w.heap.size w (w.alloc (.cells #[.slice A1 ns.length c1, .slice A2 ls.length c2] 32)) := (Below.refl _ _).alloc (Nat.le_refl _) _
  have M1 := Lib.hid (hm1.below b0)
  have M2 := Lib.hid (hm2.below b0)
  have T0 := Lib.hid (Turn.of_below (Lo := Lo) (Hi := Hi) b0)
  have X0 := Lib.hid (heap_alloc_new w (.cells #[.slice A1 ns.length c1, .slice A2 ls.length c2] 32))
  have HS := Lib.hid hs
  have HT := Lib.hid (And.intro ht1 ht2)
  clear hm1 hm2 b0 hs ht1 ht2
  go_enter Try.func23, Try.ntmps23
  go_wp2_with fail
  refine (markNodeS_any k0 M1.out h1 (by omega)).mono ?_
  rintro e w1 ⟨rfl, row, hg, hr⟩
  have M3 := Lib.hid (M2.out.grown hg fun g e => by obtain ⟨_, _, hp, c, he⟩ := hr g e; exact HS.out g c _ he hp)
  have T1 := Lib.hid (T0.out.trans (Turn.of_grown hg fun g e => by obtain ⟨hb, _, hp, c, he⟩ := hr g e; exact ⟨hb, HT.out.1 g c _ he hp⟩))
  have X1 := (hg.block w.heap.size (by simp) (fun e => by obtain ⟨hb, _, hp, c, he⟩ := hr _ e.symm; have := HT.out.1 _ c _ he hp; omega)).trans X0.out
  have x1 : w1.cell? ⟨w.heap.size, 1, none⟩ = some (.slice A2 ls.length c2) := by rw [cell_of_cells X1]; rfl
  clear hg hr X1
  go_wp2_with fail
  refine (markLeadS_any (k0 + 2 * ns.length) M3.out h2 (by omega)).mono ?_
  rintro e w2 ⟨rfl, row2, hg, hr⟩
  have T2 := Lib.hid (T1.out.trans (Turn.of_grown hg fun g e => by obtain ⟨hb, _, hp, c, he⟩ := hr g e; exact ⟨Nat.le_trans hLB hb, HT.out.2 g c _ he hp⟩))
  clear hg hr
  go_wp2_with fail
  go_ret
  exact ⟨rfl, T2.out⟩

end Go.Proofs.Ytfppnaknnijobaa
