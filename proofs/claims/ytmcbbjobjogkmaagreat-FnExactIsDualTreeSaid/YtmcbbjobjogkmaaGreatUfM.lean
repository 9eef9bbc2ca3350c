/-
  Groups in a map, member to head: what a look-up finds, and what a store adds.
-/
import Derived.Test.YtmcbbjobjogkmaaGreatUfP
import Derived.Test.YtmcbbjobjogkmaaGreatMapP
import Derived.Test.YtmcbbjobjogkmaaGreatG1
import Derived.DeepKeys4
import Derived.MapViews
import Derived.Maps.OwnSet
import Derived.Lib.SmallJoins
namespace Go.Proofs.YtmcbbjobjogkmaaGreat
open Go.ChangeShapes Go.WideShapes Go.RowKit Go.Maps Go.Joins
set_option linter.unusedVariables false
set_option linter.unusedSimpArgs false

/-- A type of keys that are elements as well, and how its members are spelled. -/
structure KeyIs {K : Type} (T MT : TypeId) (val : K → Value) (zero : Value) : Prop where
  law : Keyed Tryz.prog T
  map : Tryz.prog.underlying MT = some (.map T T)
  zer : ∀ w, (zeroValue T).run Tryz.prog w = .ok zero w
  inj : ∀ x y, val x = val y → x = y

/-- Block b is the map of the joins J. -/
def UfMap {K : Type} [DecidableEq K] (T : TypeId) (val : K → Value) (w : World) (b : Nat) (J : List (K × K)) : Prop :=
  ∃ D : DataW Value, w.ownsMap Tryz.prog T heldR b J.length D ∧ ∀ x l, keyOf Tryz.prog T (val x) = some l → Maps.has D l = (lookJ J x).isSome ∧ ∀ y, lookJ J x = some y → ∀ z, D.atKey l z = .held (val y)

def FiledJ {K : Type} (T : TypeId) (val : K → Value) (J : List (K × K)) : Prop := ∀ p, p ∈ J → ∃ l, keyOf Tryz.prog T (val p.2) = some l

section

variable {K : Type} [DecidableEq K] {T MT : TypeId} {val : K → Value} {zero : Value} {w w' : World} {b : Nat} {J : List (K × K)}

theorem UfMap.lt (h : UfMap T val w b J) : b < w.heap.size := by obtain ⟨D, h, _⟩ := h; exact h.lt

theorem ownsMap_blk {n : Nat} {D : DataW Value} (h : w.ownsMap Tryz.prog T heldR b n D) (e : w'.heap[b]? = w.heap[b]?) : w'.ownsMap Tryz.prog T heldR b n D := by
  obtain ⟨es, clock, hb, r⟩ := h
  exact ⟨es, clock, e.trans hb, r⟩

theorem UfMap.of_block (h : UfMap T val w b J) (e : w'.heap[b]? = w.heap[b]?) : UfMap T val w' b J := by
  obtain ⟨D, h1, r⟩ := h
  exact ⟨D, ownsMap_blk h1 e, r⟩

theorem UfMap.step (h : UfMap T val w b J) (hb : Below w.heap.size w w') : UfMap T val w' b J := h.of_block (hb.block b h.lt)

theorem UfMap.grown {row : Option Nat} (h : UfMap T val w b J) (hg : w.grownBy w' row) (hr : row ≠ some b) : UfMap T val w' b J := h.of_block (hg.block b h.lt fun e => hr e.symm)

theorem UfMap.made (w : World) : UfMap (K := K) T val (w.alloc (.map #[] 0)) w.heap.size [] :=
  ⟨.map [], World.ownsMap_made w _ _ _, fun x l _ => ⟨by simp [Maps.has, lookJ], fun y h => by cases h⟩⟩

theorem UfMap.size_ (h : UfMap T val w b J) : ∃ D : DataW Value, w.ownsMap Tryz.prog T heldR b J.length D := by obtain ⟨D, h, _⟩ := h; exact ⟨D, h⟩

theorem lookJ_mem : ∀ {J : List (K × K)} {x y : K}, lookJ J x = some y → ∃ p, p ∈ J ∧ p.2 = y
  | [], _, _, h => by cases h
  | p :: J, x, y, h => by
    have h2 : (if x = p.1 then some p.2 else lookJ J x) = some y := h
    by_cases e : x = p.1
    · rw [if_pos e] at h2
      injection h2 with h2
      exact ⟨p, by simp, h2⟩
    · rw [if_neg e] at h2
      obtain ⟨q, hq, he⟩ := lookJ_mem h2
      exact ⟨q, by simp [hq], he⟩

theorem FiledJ.look (h : FiledJ T val J) {x y : K} (hl : lookJ J x = some y) : ∃ l, keyOf Tryz.prog T (val y) = some l := by
  obtain ⟨p, hp, rfl⟩ := lookJ_mem hl
  exact h p hp

theorem FiledJ.add {a c : K} (h : FiledJ T val J) (ha : ∃ l, keyOf Tryz.prog T (val (hdJ J a)) = some l) : FiledJ T val (addJ J a c) := by
  unfold addJ
  split
  · exact h
  · intro p hp
    rcases List.mem_cons.1 hp with rfl | hp
    · exact ha
    · exact h p hp

set_option maxRecDepth 100000 in
/-- The head of a member is a member or stands in the joins. -/
theorem FiledJ.head : ∀ {J : List (K × K)}, FiledJ T val J → ∀ {x : K}, (∃ l, keyOf Tryz.prog T (val x) = some l) → ∃ l, keyOf Tryz.prog T (val (hdJ J x)) = some l
  | [], _, _, hx => hx
  | p :: J, h, x, hx => by
    have ih := FiledJ.head (J := J) (fun q hq => h q (List.mem_cons_of_mem _ hq)) hx
    have e : hdJ (p :: J) x = if hdJ J x = p.1 then p.2 else hdJ J x := rfl
    by_cases h1 : hdJ J x = p.1
    · rw [e, if_pos h1]; exact h p (List.mem_cons_self ..)
    · rw [e, if_neg h1]; exact ih

set_option maxRecDepth 100000 in
theorem UfMap.some_ (h : UfMap T val w b J) (HK : KeyIs T MT val zero) {x y : K} {l : Lit} (hx : keyOf Tryz.prog T (val x) = some l) (hl : lookJ J x = some y) :
    (Instr.lookup MT (.map (some b)) (val x) true).run Tryz.prog w = .ok (.tuple #[val y, .bool true]) w := by
  obtain ⟨D, h1, h2⟩ := h
  obtain ⟨h3, h4⟩ := h2 x l hx
  obtain ⟨v, ps, hrun, hv⟩ := h1.look_ok (zd := .held zero) (zp := []) HK.law HK.map (HK.zer w) rfl hx
  rw [h4 y hl] at hv
  have e : v = val y := DataW.held.inj (Prod.mk.inj (Option.some.inj hv)).1
  rw [hrun, e, h3, hl]
  rfl

set_option maxRecDepth 100000 in
theorem UfMap.none_ (h : UfMap T val w b J) (HK : KeyIs T MT val zero) {x : K} {l : Lit} (hx : keyOf Tryz.prog T (val x) = some l) (hl : lookJ J x = none) :
    (Instr.lookup MT (.map (some b)) (val x) true).run Tryz.prog w = .ok (.tuple #[zero, .bool false]) w := by
  obtain ⟨D, h1, h2⟩ := h
  obtain ⟨h3, -⟩ := h2 x l hx
  obtain ⟨v, ps, hrun, hv⟩ := h1.look_ok (zd := .held zero) (zp := []) HK.law HK.map (HK.zer w) rfl hx
  have hf : Maps.has D l = false := by rw [h3, hl]; rfl
  rw [atKey_of_not_has hf] at hv
  have e : v = zero := DataW.held.inj (Prod.mk.inj (Option.some.inj hv)).1
  rw [hrun, e, hf]

set_option maxRecDepth 100000 in
theorem UfMap.put_ {D : DataW Value} {t c : K} {lt : Lit} (h2 : ∀ x l, keyOf Tryz.prog T (val x) = some l → Maps.has D l = (lookJ J x).isSome ∧ ∀ y, lookJ J x = some y → ∀ z, D.atKey l z = .held (val y)) (hm : IsMap D) (HK : KeyIs T MT val zero) (ht : keyOf Tryz.prog T (val t) = some lt)
    (h : w'.ownsMap Tryz.prog T heldR b (J.length + 1) (D.put lt (.held (val c)))) : UfMap T val w' b ((t, c) :: J) := by
  refine ⟨_, h, fun x l hx => ?_⟩
  have hlk : lookJ ((t, c) :: J) x = if x = t then some c else lookJ J x := rfl
  by_cases e : x = t
  · subst e
    rw [hx] at ht
    injection ht with ht
    subst ht
    rw [hlk, if_pos rfl, has_put_same hm (HK.law.key hx)]
    refine ⟨rfl, fun y hy z => ?_⟩
    injection hy with hy
    subst hy
    exact atKey_put_same hm (HK.law.key hx) _ _
  · have hne : l ≠ lt := fun e2 => e (HK.inj _ _ (HK.law.inj hx (by rw [e2]; exact ht)))
    rw [hlk, if_neg e, has_put_other hne]
    refine ⟨(h2 x l hx).1, fun y hy z => ?_⟩
    rw [atKey_put_other hne]
    exact (h2 x l hx).2 y hy z

/-- The store of a head, at the operation. -/
theorem wpList_join {w : World} {ops : Array Oper} {rest : List Oper} {o : Oper} {a : Act} {Q : Exit → Act → World → Prop}
    (hg : o.guard = none) (m x v : Operand) (hop : o.op = Op.mapUpdate MT m x v) (h : UfMap T val w b J) (HK : KeyIs T MT val zero) (hn : J.length ≤ 1000000) {t c : K} {lt : Lit} (ht : keyOf Tryz.prog T (val t) = some lt)
    (hm : a.eval m = .map (some b)) (hx : a.eval x = val t) (hv : a.eval v = val c) (hK : ∀ w', UfMap T val w' b ((t, c) :: J) → w.grownBy w' (some b) → wpList Tryz.prog ops Q rest (a.put o.dst undef) w') :
    wpList Tryz.prog ops Q (o :: rest) a w := by
  obtain ⟨D, h1, h2⟩ := h
  refine wpList_mapUpdate_own w hg m x v _ hop T T HK.law HK.map heldR b J.length D hm h1 (by unfold maxLen; omega) _ (val c) lt hx hv ht (.held (val c)) [] rfl ?_
  intro w' h3 hg2
  exact hK w' (UfMap.put_ h2 h1.isMap HK ht h3) hg2

end

set_option maxRecDepth 100000 in
theorem keyNd (n : Nd) (hx : -9223372036854775808 ≤ n.x ∧ n.x ≤ 9223372036854775807) (hy : -9223372036854775808 ≤ n.y ∧ n.y ≤ 9223372036854775807) : ∃ l, keyOf Tryz.prog 75 n.val = some l := by
  have h := shut_agg2 (H := Unit) (enc := fun _ => ()) (P := Tryz.prog) (w := { (default : World) with heap := #[] }) (base := 0) (spare := fun _ => true) (held := true) (t := 75) Tryz.underlying75 (by kernel_rfl) (by kernel_rfl)
    (shut_int Tryz.underlying3 (WalkArith.wf_i64 hx)) (shut_int Tryz.underlying3 (WalkArith.wf_i64 hy))
  exact ⟨_, (keyOf_asKey (by kernel_rfl) (by rw [Tryz.underlying75]) (by simp [Value.formed, Tryz.underlying75]; kernel_rfl) h).1⟩

set_option maxRecDepth 100000 in
theorem keyIsNd : KeyIs (K := Nd) 75 73 Nd.val (.agg #[.int .i64 0, .int .i64 0]) where
  law := Keyed.of_law (deep_law_laid (by kernel_rfl) (m := 3) (by omega) (of_decide_eq_true (by kernel_rfl)) (by kernel_rfl) (by rw [Tryz.underlying75]))
  map := Tryz.underlying73
  zer := fun w => by kernel_rfl
  inj := fun x y h => by
    obtain ⟨a, b⟩ := x
    obtain ⟨c, d⟩ := y
    simp [Nd.val] at h
    rw [h.1, h.2]

def intV (x : Int) : Value := .int .i64 x

theorem keyIsInt : KeyIs (K := Int) 3 124 intV (.int .i64 0) where
  law := int_keyed Tryz.underlying3
  map := Tryz.underlying124
  zer := fun w => by kernel_rfl
  inj := fun x y h => by simpa [intV] using h

theorem keyInt (x : Int) (hx : -9223372036854775808 ≤ x ∧ x ≤ 9223372036854775807) : ∃ l, keyOf Tryz.prog 3 (intV x) = some l := ⟨_, keyOf_int_mk Tryz.underlying3 (WalkArith.wf_i64 hx)⟩
end Go.Proofs.YtmcbbjobjogkmaaGreat
