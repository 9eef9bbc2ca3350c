/-
  A map from ints to slices that a call itself has made: which value lies at which key; its keys, sorted.
-/
import Derived.Test.YtepacoacalhdcaaGreatRowsP
import Derived.Test.YtepacoacalhdcaaGreatG3
import Derived.Test.YtepacoacalhdcaaGreatIter
import Derived.Maps.OwnOps
import Derived.Maps.Views
import Derived.Shelf.SlIterI.Sorted
namespace Go.Proofs.YtepacoacalhdcaaGreat
open Go.RowKit Go.Maps
set_option linter.unusedVariables false
set_option linter.unusedSimpArgs false

/-- An element of the map reads as itself. -/
def heldR (v : Value) : Option (DataW Value × List MemPlace) := some (.held v, [])

def keyL (k : Nat) : Lit := .int .i64 (k : Int)

theorem keyL_ne {a b : Nat} (h : a ≠ b) : keyL a ≠ keyL b := fun e => h (by unfold keyL at e; injection e with _ e; exact Int.ofNat_inj.1 e)

/-- Block b is a map of at most n entries: at key ks[i] lies us[i]; there is no other key. -/
def MapIs (w : World) (b n : Nat) (ks : List Nat) (us : List Value) : Prop :=
  ∃ D : DataW Value, w.ownsMap Tryz.prog 3 heldR b n D ∧ ks.length = us.length ∧ (∀ x : Int, Maps.has D (.int .i64 x) = true ↔ ∃ k : Nat, k ∈ ks ∧ x = k) ∧ ∀ i (hi : i < ks.length), ∀ z, D.atKey (keyL ks[i]) z = .held (atV us i)

theorem ownsMap_of_block {w w' : World} {b n : Nat} {D : DataW Value} (h : w.ownsMap Tryz.prog 3 heldR b n D) (e : w'.heap[b]? = w.heap[b]?) : w'.ownsMap Tryz.prog 3 heldR b n D := by
  obtain ⟨es, clock, hb, r⟩ := h
  exact ⟨es, clock, e.trans hb, r⟩

section

variable {w w' : World} {b n : Nat} {ks : List Nat} {us : List Value}

theorem MapIs.lt (h : MapIs w b n ks us) : b < w.heap.size := by obtain ⟨D, h, _⟩ := h; exact h.lt

theorem MapIs.of_block (h : MapIs w b n ks us) (e : w'.heap[b]? = w.heap[b]?) : MapIs w' b n ks us := by
  obtain ⟨D, h1, r⟩ := h
  exact ⟨D, ownsMap_of_block h1 e, r⟩

theorem MapIs.step (h : MapIs w b n ks us) (hb : Below w.heap.size w w') : MapIs w' b n ks us := h.of_block (hb.block b h.lt)

theorem MapIs.setFar (h : MapIs w b n ks us) {g j : Nat} (hne : b ≠ g) (x : Value) : MapIs (w.setCell ⟨g, j, none⟩ x) b n ks us := h.of_block (Below.heap_setCell _ _ _ _ hne)

theorem MapIs.grown {row : Option Nat} (h : MapIs w b n ks us) (hg : w.grownBy w' row) (hr : row ≠ some b) : MapIs w' b n ks us := h.of_block (hg.block b h.lt fun e => hr e.symm)

theorem MapIs.mono (h : MapIs w b n ks us) {m : Nat} (hm : n ≤ m) : MapIs w b m ks us := by obtain ⟨D, h1, r⟩ := h; exact ⟨D, h1.mono hm, r⟩

theorem MapIs.len (h : MapIs w b n ks us) : ks.length = us.length := by obtain ⟨D, _, h, _⟩ := h; exact h

theorem MapIs.made (w : World) : MapIs (w.alloc (.map #[] 0)) w.heap.size 0 [] [] :=
  ⟨.map [], World.ownsMap_made w _ _ _, rfl, fun x => by simp [Maps.has], fun i hi => by simp at hi⟩

/-- The map lies in no row of cells. -/
theorem MapIs.far (h : MapIs w b n ks us) {g : Nat} {cur : Array Value} {T : TypeId} {fr : Nat × Nat} (hg : w.heap[g]? = some (.cells cur T fr)) : b ≠ g := by
  rintro rfl
  obtain ⟨D, ⟨es, clock, hb, _⟩, _⟩ := h
  rw [hg] at hb
  cases hb

theorem lit_key (k : Nat) : WideAt.IsKeyLit (keyL k) := trivial

/-- A value is stored at a new key. -/
theorem MapIs.put_ {D : DataW Value} {k : Nat} {u : Value} (hl : ks.length = us.length) (hh : ∀ x : Int, Maps.has D (.int .i64 x) = true ↔ ∃ k : Nat, k ∈ ks ∧ x = k) (ha : ∀ i (hi : i < ks.length), ∀ z, D.atKey (keyL ks[i]) z = .held (atV us i)) (hm : IsMap D) (hnew : k ∉ ks)
    (h : w'.ownsMap Tryz.prog 3 heldR b (n + 1) (D.put (keyL k) (.held u))) : MapIs w' b (n + 1) (ks ++ [k]) (us ++ [u]) := by
  refine ⟨_, h, by simp [hl], fun x => ?_, fun i hi z => ?_⟩
  · by_cases e : x = (k : Int)
    · subst e
      rw [show (Lit.int .i64 (k : Int)) = keyL k from rfl, has_put_same hm (lit_key k)]
      exact ⟨fun _ => ⟨k, by simp, rfl⟩, fun _ => rfl⟩
    · rw [has_put_other (fun e2 => e (by unfold keyL at e2; injection e2 with _ e2)), hh]
      constructor
      · rintro ⟨q, hq, rfl⟩; exact ⟨q, by simp [hq], rfl⟩
      · rintro ⟨q, hq, rfl⟩
        rw [List.mem_append] at hq
        rcases hq with hq | hq
        · exact ⟨q, hq, rfl⟩
        · simp at hq; subst hq; exact absurd rfl e
  · by_cases e : i < ks.length
    · have e1 : (ks ++ [k])[i] = ks[i] := by simp [List.getElem_append, e]
      rw [e1, atV_old (by omega), atKey_put_other (keyL_ne (fun e2 => hnew (by rw [← e2]; exact List.getElem_mem e)))]
      exact ha i e z
    · have e2 : i = ks.length := by simp at hi; omega
      subst e2
      have e1 : (ks ++ [k])[ks.length]'hi = k := by simp
      rw [e1, hl, atV_new]
      exact atKey_put_same hm (lit_key k) _ _

theorem keyOf_nat {k : Nat} (hk : k ≤ 1000000) : keyOf Tryz.prog 3 (.int .i64 (k : Int)) = some (keyL k) := keyOf_int_mk Tryz.underlying3 (WalkArith.wf_i64 (by omega))

theorem mapLaw : Keyed Tryz.prog 3 := int_keyed Tryz.underlying3

theorem isMap_owns {D : DataW Value} (h : w.ownsMap Tryz.prog 3 heldR b n D) : IsMap D := by
  obtain ⟨es, clock, _, _, _, rfl⟩ := h
  exact ⟨_, rfl⟩

theorem MapIs.run_look (h : MapIs w b n ks us) {i : Nat} (hi : i < ks.length) (hk : ks[i] ≤ 1000000) :
    (Instr.lookup 161 (.map (some b)) (.int .i64 (ks[i] : Int)) false).run Tryz.prog w = .ok (atV us i) w := by
  obtain ⟨D, h1, _, _, ha⟩ := h
  obtain ⟨v, ps, hrun, hv⟩ := h1.lookup (t := 161) (e := 27) (z := .slice none 0 0) (zd := .held (.slice none 0 0)) (zp := []) mapLaw Tryz.underlying161 (by kernel_rfl) rfl (keyOf_nat hk)
  have h2 : some (DataW.held v, ([] : List MemPlace)) = some (DataW.held (atV us i), ps) := by rw [← ha i hi (.held (.slice none 0 0))]; exact hv
  have hv : v = atV us i := DataW.held.inj (Prod.mk.inj (Option.some.inj h2)).1
  rw [hrun, hv]

end

/-- The look-up, at the operation. -/
theorem wpList_look (w : World) {ops : Array Oper} {rest : List Oper} {o : Oper} {a : Act} {Q : Exit → Act → World → Prop}
    (hg : o.guard = none) (m x : Operand) (hop : o.op = Op.lookup 161 m x false) {b n : Nat} {ks : List Nat} {us : List Value} (h : MapIs w b n ks us) {i : Nat} (hi : i < ks.length) {k : Int} (hk : k = (ks[i] : Int)) (hb : ks[i] ≤ 1000000)
    (hm : a.eval m = .map (some b)) (hx : a.eval x = .int .i64 k) {u : Value} (hu : atV us i = u) (hK : wpList Tryz.prog ops Q rest (a.put o.dst u) w) :
    wpList Tryz.prog ops Q (o :: rest) a w := by
  refine wpList_plain hg fun K' hK' => ?_
  have hrun := h.run_look hi hb
  rw [hu] at hrun
  unfold Oper.wp
  simp [execOp, hop, hm, hx, hk, hrun, Result.andThen]
  exact hK' _ _ hK

theorem wpList_lookNew (w : World) {ops : Array Oper} {rest : List Oper} {o : Oper} {a : Act} {Q : Exit → Act → World → Prop}
    (hg : o.guard = none) (m x : Operand) (hop : o.op = Op.lookup 161 m x false) {b n : Nat} {ks : List Nat} {us : List Value} {k : Nat} {u : Value} (h : MapIs w b n (ks ++ [k]) (us ++ [u])) (hb : k ≤ 1000000)
    (hm : a.eval m = .map (some b)) (hx : a.eval x = .int .i64 (k : Int)) (hK : wpList Tryz.prog ops Q rest (a.put o.dst u) w) :
    wpList Tryz.prog ops Q (o :: rest) a w := by
  have hl := h.len
  simp at hl
  exact wpList_look w hg m x hop h (i := ks.length) (by simp) (k := (k : Int)) (by simp) (by simpa using hb) hm hx (by rw [hl, atV_new]) hK

/-- The store at a new key, at the operation. -/
theorem wpList_put (w : World) {ops : Array Oper} {rest : List Oper} {o : Oper} {a : Act} {Q : Exit → Act → World → Prop}
    (hg : o.guard = none) (m x v : Operand) (hop : o.op = Op.mapUpdate 161 m x v) {b n : Nat} {ks : List Nat} {us : List Value} (h : MapIs w b n ks us) {k : Nat} {u : Value} (hk : k ≤ 1000000) (hn : n ≤ 1000000) (hnew : k ∉ ks)
    (hm : a.eval m = .map (some b)) (hx : a.eval x = .int .i64 (k : Int)) (hv : a.eval v = u) (hK : ∀ w', MapIs w' b (n + 1) (ks ++ [k]) (us ++ [u]) → w.grownBy w' (some b) → wpList Tryz.prog ops Q rest (a.put o.dst undef) w') :
    wpList Tryz.prog ops Q (o :: rest) a w := by
  obtain ⟨D, h1, hl, hh, ha⟩ := h
  refine wpList_mapUpdate_own w hg m x v _ hop 3 27 mapLaw Tryz.underlying161 heldR b n D hm h1 (by unfold maxLen; omega) _ u (keyL k) hx hv (keyOf_nat hk) (.held u) [] rfl ?_
  intro w' h2 hg2
  exact hK w' (MapIs.put_ hl hh ha (isMap_owns h1) hnew h2) hg2

/-- slices.Sort's two contracts in this seat. -/
theorem sortsI (m : Nat) : AnyZI.SortsIn Tryz.prog Tryz.sortedI_ren Fence.wide m :=
  ⟨fun blk off cap ss W hH hblk hsz => callsIn_wide.2 (Any.slices_Sort_int Tryz.lays189 blk off cap ss W hH hblk hsz),
   fun p cap W => callsIn_wide.2 (Any.slices_Sort_int_none Tryz.lays189 p cap W)⟩

theorem keysC (mb : Option Nat) (W : World) : Calls Tryz.prog 138 #[.map mb] W fun e w' => e = .returned (.func (.func 177) #[] #[.pointer (some ⟨W.heap.size, 0, none⟩)]) ∧ w' = W.alloc (.cells #[.map mb] 161) :=
  (callsIn_wide (n := 5)).1 (AnyZI.keys_in Tryz.keysI Fence.wide 5 trivial rfl mb W)

theorem sorted_keys {ks : List Nat} {ss : List Int} {D : DataW Value} {w : World} {b n : Nat} (hown : w.ownsMap Tryz.prog 3 heldR b n D) (hh : ∀ x : Int, Maps.has D (.int .i64 x) = true ↔ ∃ k : Nat, k ∈ ks ∧ x = k) (hs : ks.Pairwise (· < ·)) (hp : ss.Perm (intKeys D)) :
    (ss.mergeSort fun x y => decide (x ≤ y)) = ks.map fun k : Nat => (k : Int) := by
  have hnd : (ks.map fun k : Nat => (k : Int)).Nodup := by
    rw [List.nodup_iff_pairwise_ne, List.pairwise_map]
    exact hs.imp fun h e => by omega
  have hC : CollectedI D (fun _ => false) (ks.map fun k : Nat => (k : Int)) := ⟨hnd, fun x => by
    rw [hh x]
    simp only [List.mem_map, and_true]
    constructor
    · rintro ⟨k, hk, rfl⟩; exact ⟨k, hk, rfl⟩
    · rintro ⟨k, hk, rfl⟩; exact ⟨k, hk, rfl⟩⟩
  have h1 := hC.perm hown mapLaw Tryz.underlying3 (fun _ => rfl)
  have h2 := mergeSort_of_perm_i (hp.trans h1.symm)
  unfold leI at h2
  rw [h2]
  exact List.mergeSort_of_pairwise (by
    rw [List.pairwise_map]
    exact hs.imp fun h => by simp; omega)

theorem sortedC {w : World} {b n : Nat} {ks : List Nat} {us : List Value} (h : MapIs w b n ks us) (hs : ks.Pairwise (· < ·)) (hl : ks.length ≤ 1000000) :
    Calls Tryz.prog 137 #[.func (.func 177) #[] #[.pointer (some ⟨w.heap.size, 0, none⟩)]] (w.alloc (.cells #[.map (some b)] 161)) (IntsNew (ks.map fun k : Nat => (k : Int)) (w.alloc (.cells #[.map (some b)] 161))) := by
  obtain ⟨D, hown, hl2, hh, ha⟩ := h
  have hbl := hown.lt
  have hsz : Maps.size D = ks.length := by
    have hC : CollectedI D (fun _ => false) (ks.map fun k : Nat => (k : Int)) := ⟨by
      rw [List.nodup_iff_pairwise_ne, List.pairwise_map]
      exact hs.imp fun h e => by omega, fun x => by
      rw [hh x]
      simp only [List.mem_map, and_true]
      constructor
      · rintro ⟨k, hk, rfl⟩; exact ⟨k, hk, rfl⟩
      · rintro ⟨k, hk, rfl⟩; exact ⟨k, hk, rfl⟩⟩
    have h1 := (hC.perm hown mapLaw Tryz.underlying3 (fun _ => rfl)).length_eq
    obtain ⟨es, rfl⟩ := isMap_owns hown
    rw [List.length_map] at h1
    rw [h1]
    simp [intKeys, Maps.size]
  have hseq : SeqGives Fence.wide 2 Tryz.prog 177 #[.pointer (some ⟨w.heap.size, 0, none⟩)] encZ (fun ss => ss.Perm (intKeys D)) (Maps.size D) (w.alloc (.cells #[.map (some b)] 161)) :=
    AnyZI.keys_gives (ρ := Tryz.keysI_ren) { Tryz.keysI with } Fence.wide _ trivial rfl (by omega) w.heap.size b n D _ (by simp) (by simp) (by
      obtain ⟨es, clock, hb, Ft, hs, hD⟩ := hown
      exact ⟨es, clock, (Below.heap_alloc _ _ b hbl).trans hb, Ft, hs, hD⟩)
  have cS := AnyZI.sorted_in Tryz.sortedI Fence.wide 5 trivial trivial trivial trivial rfl (by omega) (sortsI _) (enters_of Tryz.func176 (by kernel_rfl) rfl) 177 #[.pointer (some ⟨w.heap.size, 0, none⟩)] trivial (enters_of Tryz.func177 (by kernel_rfl) rfl) _ _ (by rw [hsz]; unfold maxLen; omega) (by rw [hsz]; omega) _ hseq
  change CallsIn _ _ Tryz.prog 137 _ _ _ at cS
  refine ((callsIn_wide (n := 5)).1 cS).mono ?_
  rintro e w' ⟨v, ss, rfl, hS, hrow, -, hb⟩
  have hk := sorted_keys hown hh hs hS
  refine ⟨v, rfl, ?_, hb⟩
  rw [hk] at hrow
  have hlen : ss.length = (ks.map fun k : Nat => (k : Int)).length := by rw [← hk]; simp
  unfold Ints
  rw [← hlen]
  exact hrow
end Go.Proofs.YtepacoacalhdcaaGreat
