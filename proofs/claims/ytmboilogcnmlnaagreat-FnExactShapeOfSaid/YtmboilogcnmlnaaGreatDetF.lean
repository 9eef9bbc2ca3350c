/-
  A region that draws its order and ends in an append of a node to one's own row, where the row's first block is older than memory that is read.
-/
import Derived.Test.YtmboilogcnmlnaaGreatDetN
import Derived.Test.YtmboilogcnmlnaaGreatGlsV
import Derived.Test.YtmboilogcnmlnaaGreatAppP
namespace Go.Proofs.YtmboilogcnmlnaaGreat
open Go.RowKit
set_option linter.unusedVariables false
set_option linter.unusedSimpArgs false

/-- No cell lies in the row's block: it is older than B, or younger and older than what the world of size Hi has made since. -/
def Fit (B Hi : Nat) : List (Nat × Nat × Value) → Prop
  | [] => True
  | (b, _, _) :: fs => (b < B ∨ B < b ∧ b < Hi) ∧ Fit B Hi fs

theorem Fit.nrow {B Hi : Nat} {row : Option Nat} (hr : ∀ k, row = some k → k = B ∨ Hi ≤ k) (hb : ∀ k, row = some k → B ≤ k) (hBH : B < Hi) : ∀ {fs : List (Nat × Nat × Value)}, Fit B Hi fs → Nrow row fs
  | [], _ => trivial
  | (b, _, _) :: fs, h => ⟨fun e => by
      have h1 := hr b e
      have h2 := hb b e
      rcases h.1 with h3 | h3 <;> omega, Fit.nrow hr hb hBH h.2⟩

/-- The row of one's own, from block B on; what w2 has made since B + 1 stays. -/
def RowF (w2 : World) (B : Nat) (v : Value) (xs : List Nd) (W : World) : Prop := Own W B 39 v xs ∧ (∀ k, v.ownBlock = some k → k = B ∨ w2.heap.size ≤ k) ∧ Keeps (B + 1) w2 W ∧ B < w2.heap.size

theorem RowF.step {w2 : World} {B : Nat} {v : Value} {xs : List Nd} {W W' : World} (h : RowF w2 B v xs W) (hb : Below W.heap.size W W') : RowF w2 B v xs W' := ⟨h.1.step hb, h.2.1, h.2.2.1.below hb, h.2.2.2⟩

theorem stable_rowF (w2 : World) (B : Nat) (v : Value) (xs : List Nd) : Stable fun W => RowF w2 B v xs W := fun _ _ h hb => h.step hb

theorem appF {Q : Exit → Act → World → Prop} {md : Region.Mode} {l rest : List Oper} {i : Nat} {oi : Oper} {fuel : Nat} {listed : Array Bool} {a : Act} {w w2 : World} {fs : List (Nat × Nat × Value)} {B : Nat} {v u : Value} {xs : List Nd} {px py : Int} (s y : Operand)
    (hi : l.drop i = oi :: rest) (hr : Region.ready md l.toArray listed = [i]) (hw : Region.wanted oi (yielded l.toArray a.tmps) = true)
    (ho : oi.op = .call { callee := .builtin .append, args := #[s, y], argTypes := #[27, 27] }) (hs : a.eval s = v) (hy : a.eval y = u) (hBs : Fit B w2.heap.size fs) (hwB : w.heap.size ≤ B) (hlen : xs.length ≤ 1048576)
    (h : ∀ v', wpAnyC Tryz.prog md l.toArray Q (fun W => Held w W fs) fuel (listed.setIfInBounds i true) (a.put oi.dst v') (fun W => Held w W fs ∧ RowF w2 B v' (xs ++ [⟨px, py⟩]) W)) :
    wpAnyC Tryz.prog md l.toArray Q (fun W => Held w W fs) (fuel + 1) listed a (fun W => (Held w W fs ∧ RowF w2 B v xs W) ∧ OneN px py u W) := by
  obtain ⟨i0, hi0, hz0, hz1, hz2⟩ := info_parts infoNode
  refine turnC (fun v' W => Held w W fs ∧ RowF w2 B v' (xs ++ [⟨px, py⟩]) W) (fun v' => Stable.and (Stable.held _ _) (stable_rowF _ _ _ _)) (fun _ _ h => h.1) hi hr hw (fun K W hG hK => ?_) h
  obtain ⟨⟨hH, hI, hO, hK2, hB2⟩, b, rfl, hb⟩ := hG
  have hsz := hK2.1
  refine wp_append_lies W s y 27 ho B 39 i0 (.agg #[.int .i64 0, .int .i64 0]) 2 16 Tryz.underlying27 hi0 hz0 hz1 hz2 rfl (by decide) v xs.length (cellsP xs) hs hI ⟨b, 0, none⟩ 1 1 [.int .i64 px, .int .i64 py] hy rfl (World.news_of_block hb) (by simp [Value.oneCell']) (by omega) (by unfold maxLen; omega) (by omega) (by omega) _ rfl ?_
  intro g cap w' hown hgrow hat hlt
  refine hK _ w' ⟨hH.grown hgrow (Fit.nrow hO (fun k e => (hI.own k e).1) hB2 hBs) (fun k e => by have := (hI.own k e).1; omega), Own.more (ys := [⟨px, py⟩]) hown, fun k e => ?_, hK2.grown hgrow (fun k e => by have := hO k e; omega), hB2⟩
  simp [Value.ownBlock] at e
  subst e
  rcases hat with e2 | e2
  · exact hO _ e2
  · exact .inr (by omega)
end Go.Proofs.YtmboilogcnmlnaaGreat
