/-
  XDetA for rows of nodes.
-/
import Derived.Test.YtmboilogcnmlnaaGreatDetA
import Derived.Test.YtmboilogcnmlnaaGreatG1
import Derived.Test.YtmboilogcnmlnaaGreatG4
namespace Go.Proofs.YtmboilogcnmlnaaGreat
open Go.RowKit
set_option linter.unusedVariables false
set_option linter.unusedSimpArgs false

/-- What buildSlice hands back: a row of one node. -/
def OneN (x y : Int) (v : Value) (W : World) : Prop := ∃ b, v = .slice (some ⟨b, 0, none⟩) 1 1 ∧ W.heap[b]? = some (.cells #[.int .i64 x, .int .i64 y] 39 (0, 0))

theorem stable_oneN (x y : Int) (v : Value) : Stable fun W => OneN x y v W := fun _ _ ⟨b, h1, h2⟩ hb => ⟨b, h1, (hb.block b (lt_of_block h2)).trans h2⟩

theorem freeR_oneN {w : World} {r : Result Next} {x y : Int} (h : r = .ok (.value (.slice (some ⟨w.heap.size, 0, none⟩) 1 1)) (w.alloc (.cells #[.int .i64 x, .int .i64 y] 39))) : FreeR Tryz.prog (OneN x y) w r := by
  subst h
  exact ⟨⟨_, rfl, heap_alloc_new w _⟩, (Below.refl _ _).alloc (Nat.le_refl _) _⟩

/-- The row of one's own. -/
def RowN (B : Nat) (v : Value) (xs : List Nd) (W : World) : Prop := Own W B 39 v xs ∧ B ≤ W.heap.size

theorem stable_rowN (B : Nat) (v : Value) (xs : List Nd) : Stable fun W => RowN B v xs W := fun _ _ h hb => ⟨h.1.step hb, Nat.le_trans h.2 hb.size⟩

theorem appN {Q : Exit → Act → World → Prop} {md : Region.Mode} {l rest : List Oper} {i : Nat} {oi : Oper} {fuel : Nat} {listed : Array Bool} {a : Act} {w : World} {fs : List (Nat × Nat × Value)} {B : Nat} {v u : Value} {xs : List Nd} {px py : Int} (s y : Operand)
    (hi : l.drop i = oi :: rest) (hr : Region.ready md l.toArray listed = [i]) (hw : Region.wanted oi (yielded l.toArray a.tmps) = true)
    (ho : oi.op = .call { callee := .builtin .append, args := #[s, y], argTypes := #[27, 27] }) (hs : a.eval s = v) (hy : a.eval y = u) (hBs : Bs B fs) (hwB : w.heap.size ≤ B) (hlen : xs.length ≤ 1048576)
    (h : ∀ v', wpAnyC Tryz.prog md l.toArray Q (fun W => Held w W fs) fuel (listed.setIfInBounds i true) (a.put oi.dst v') (fun W => Held w W fs ∧ RowN B v' (xs ++ [⟨px, py⟩]) W)) :
    wpAnyC Tryz.prog md l.toArray Q (fun W => Held w W fs) (fuel + 1) listed a (fun W => (Held w W fs ∧ RowN B v xs W) ∧ OneN px py u W) := by
  obtain ⟨i0, hi0, hz0, hz1, hz2⟩ := info_parts infoNode
  refine turnC (fun v' W => Held w W fs ∧ RowN B v' (xs ++ [⟨px, py⟩]) W) (fun v' => Stable.and (Stable.held _ _) (stable_rowN _ _ _)) (fun _ _ h => h.1) hi hr hw (fun K W hG hK => ?_) h
  obtain ⟨⟨hH, hI, hB⟩, b, rfl, hb⟩ := hG
  refine wp_append_lies W s y 27 ho B 39 i0 (.agg #[.int .i64 0, .int .i64 0]) 2 16 Tryz.underlying27 hi0 hz0 hz1 hz2 rfl (by decide) v xs.length (cellsP xs) hs hI ⟨b, 0, none⟩ 1 1 [.int .i64 px, .int .i64 py] hy rfl (World.news_of_block hb) (by simp [Value.oneCell']) (by omega) (by unfold maxLen; omega) (by omega) hB _ rfl ?_
  intro g cap w' hown hgrow _ hlt
  refine hK _ w' ⟨hH.stepB hBs ((Below.refl B W).grown hgrow hB fun k e => (hI.own k e).1) hwB, Own.more (ys := [⟨px, py⟩]) hown, Nat.le_trans hB hgrow.size⟩
end Go.Proofs.YtmboilogcnmlnaaGreat
