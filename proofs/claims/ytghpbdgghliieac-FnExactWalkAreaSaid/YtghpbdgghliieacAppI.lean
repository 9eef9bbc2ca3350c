/-
  One int more on a slice of ints: the slice stays in its block, or moves to the heap's end.
-/
import Derived.Test.YtghpbdgghliieacInts
import Derived.Laws.AppendOwn
import Derived.Laws.OwnMore
namespace Go.Proofs.Ytghpbdgghliieac
open Go.RowKit
set_option linter.unusedVariables false
set_option linter.unusedSimpArgs false

theorem cell_one_new' {w : World} {ad : Addr} {y : Value} (hy : w.cell? ad = some y) : ∀ j u, [y][j]? = some u → w.cell? (ad.add j) = some u := by
  intro j u h
  match j, h with
  | 0, h =>
    have e : ad.add 0 = ad := by
      obtain ⟨b, o, s⟩ := ad
      unfold Addr.add
      split <;> simp_all
    rw [e, hy]
    simpa using h
  | j + 1, h => simp at h
section
variable {P : Program}
theorem app_fresh {w : World} {B : Nat} {t ty e : TypeId} {i : TypeInfo} {z v : Value} {n : Nat} {xs : List Value} (ht : P.underlying t = some (.slice e)) (hi : P.info? e = some i) (hz : i.zero = some z) (hsize : i.size = 1) (hby : i.bytes = 8)
    (hown : w.ownsRow B e 1 v n xs) {ad : Addr} {c : Nat} {y : Value} (hy : w.cell? ad = some y) (h1 : y.oneCell' = true) (hn : n ≤ 1000000) {v' : Value} {w' : World}
    (hr : (Builtin.append_ #[t, t] ty #[v, .slice (some ad) 1 c]).run P w = .ok v' w') : v'.ownBlock = v.ownBlock ∨ v'.ownBlock = some w.heap.size := by
  have hnews : ∀ j u, [y][j]? = some u → w.cell? (ad.add j) = some u := cell_one_new' hy
  rcases hown.2 with ⟨rfl, rfl⟩ | ⟨g, cap, cur, rfl, hB, hg, hc, hm, hs, htk⟩
  · have := run_append_nil (P := P) w t ty e i z ht hi hz ad 1 c [y] (by rw [hsize]; rfl) hnews (by omega) (by omega) (by rw [hby]; omega)
    rw [hr] at this
    injection this with e1 _
    subst e1
    exact .inr rfl
  · by_cases hroom : n + 1 ≤ cap
    · have := run_append_room (P := P) w t ty e i ht hi g n cap cur hg ad 1 c [y] (by rw [hsize]; rfl) hnews (by simpa using h1) hroom (by rw [hsize]; simp; omega)
      rw [hr] at this
      injection this with e1 _
      subst e1
      exact .inl rfl
    · have := run_append_grow (P := P) w t ty e i z ht hi hz ⟨g, 0, none⟩ n cap xs (by rw [hsize]; exact hown.1) (hown.cells (g := g) rfl) ad 1 c [y] (by rw [hsize]; rfl) hnews (by omega) (by omega)
        (growslice_fits (by omega) (by rw [hby]; omega))
      rw [hr] at this
      injection this with e1 _
      subst e1
      exact .inr rfl
theorem wpList_append_int {ops : Array Oper} {rest : List Oper} {o : Oper} {a : Act} {w : World} {Q : Exit → Act → World → Prop} (hgd : o.guard = none) (s x : Operand) (t : TypeId)
    (ho : o.op = .call { callee := .builtin .append, args := #[s, x], argTypes := #[t, t] }) {B : Nat} {e : TypeId} {i : TypeInfo} (ht : P.underlying t = some (.slice e)) (hi : P.info? e = some i) (hz : i.zero = some (.int .i64 0)) (hsize : i.size = 1) (hby : i.bytes = 8)
    {v : Value} {xs : List Int} (hown : w.ownsRow B e 1 v xs.length (xs.map fun x => .int .i64 x)) (hs : a.eval s = v) {ad : Addr} {c : Nat} {y : Int} (hx : a.eval x = .slice (some ad) 1 c) (hy : w.cell? ad = some (.int .i64 y)) (hn : xs.length ≤ 1000000) (hB : B ≤ w.heap.size)
    (h : ∀ v' w', w'.ownsRow B e 1 v' (xs ++ [y]).length ((xs ++ [y]).map fun x => .int .i64 x) → w.grownBy w' v.ownBlock → (v'.ownBlock = v.ownBlock ∨ v'.ownBlock = some w.heap.size) → wpList P ops Q rest (a.put o.dst v') w') :
    wpList P ops Q (o :: rest) a w := by
  obtain ⟨v', w', hr, h2, h3, _⟩ := run_append_own (P := P) w B t o.type e i _ 1 8 ht hi hz hsize hby rfl (by decide) v xs.length _ hown ad 1 c [.int .i64 y] rfl (cell_one_new' hy) (by simp [Value.oneCell']) (by unfold maxLen; omega) (by omega) hB
  have hf := app_fresh ht hi hz hsize hby hown hy rfl hn hr
  refine wpList_plain hgd fun _ hK => ?_
  unfold Oper.wp execOp
  simp only [ho, resolve, invoke, builtin, Sem.run_bind, Sem.run_pure, Result.andThen_ok, List.map_toArray, List.map_cons, List.map_nil, hs, hx, hr]
  exact hK _ _ (h v' w' (by rw [List.length_append, List.map_append]; exact h2) h3 hf)
end
end Go.Proofs.Ytghpbdgghliieac
