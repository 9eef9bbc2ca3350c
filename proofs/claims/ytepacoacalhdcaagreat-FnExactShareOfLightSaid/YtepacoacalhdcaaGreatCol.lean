/-
  The stains of the colors, of the program and of the model.
-/
import Derived.Test.YtepacoacalhdcaaGreatTrL
import Derived.Laws.AppendOwn
import Derived.Laws.OwnMore
namespace Go.Proofs.YtepacoacalhdcaaGreat
open Go.RowKit
set_option linter.unusedVariables false
set_option linter.unusedSimpArgs false

theorem Tps.made (w : World) (b B : Nat) (T : TypeId) (hb : b = w.heap.size) (hB : B ≤ b) : Tps (w.alloc (.cells #[] T)) B T (.slice (some ⟨b, 0, none⟩) 0 0) [] := by
  subst hb
  exact World.ownsRow_made _ _ _ hB (by unfold maxLen; omega) rfl

theorem grown_belowT {B : Nat} {T : TypeId} {W W' : World} {v : Value} {xs : List Tr} {o : Obj} (h : Tps W B T v xs) (hB : B ≤ W.heap.size) (hg : (W.alloc o).grownBy W' v.ownBlock) : Below B W W' :=
  ((Below.refl B W).alloc hB o).grown hg (by simp; omega) fun k e => (h.own k e).1

theorem tri_news {w : World} {b : Nat} {x y z : Value} (h0 : w.cell? ⟨b, 0, none⟩ = some x) (h1 : w.cell? ⟨b, 1, none⟩ = some y) (h2 : w.cell? ⟨b, 2, none⟩ = some z) : ∀ j u, [x, y, z][j]? = some u → w.cell? ((⟨b, 0, none⟩ : Addr).add j) = some u := by
  intro j u h
  match j, h with
  | 0, h => simp at h; subst h; simpa [Addr.add] using h0
  | 1, h => simp at h; subst h; simpa [Addr.add] using h1
  | 2, h => simp at h; subst h; simpa [Addr.add] using h2
  | j + 3, h => simp at h

def stsB (xs : List Tr) : Bool := xs.all stainB

def colM (table : List Tr) (cols : List Int) : List Tr := cols.map fun c => atT table c.toNat

theorem colM_take (table : List Tr) {cols : List Int} {k : Nat} (h : k < cols.length) : colM table (cols.take (k + 1)) = colM table (cols.take k) ++ [atT table (atZ cols k).toNat] := by
  unfold colM
  rw [List.take_succ_eq_append_getElem h, atZ_get h, List.map_append]
  rfl

theorem colM_len (table : List Tr) (cols : List Int) : (colM table cols).length = cols.length := by simp [colM]

theorem inR_at {xs : List Int} {a b : Int} (h : inR xs a b = true) {k : Nat} (hk : k < xs.length) : a ≤ atZ xs k ∧ atZ xs k ≤ b := by
  unfold inR at h
  have := List.all_eq_true.1 h (atZ xs k) (by rw [← atZ_get hk]; exact List.getElem_mem hk)
  exact (inB_iff _ _ _).1 this

theorem inR_no {xs : List Int} {a b : Int} {k : Nat} (hk : k < xs.length) (h : inB (atZ xs k) a b = false) : inR xs a b = false := by
  unfold inR
  exact List.all_eq_false.2 ⟨atZ xs k, by rw [← atZ_get hk]; exact List.getElem_mem hk, by rw [h]; simp⟩

theorem stsB_no {xs : List Tr} {k : Nat} (hk : k < xs.length) (h : stainB (atT xs k) = false) : stsB xs = false := by
  unfold stsB
  exact List.all_eq_false.2 ⟨atT xs k, by rw [← atT_get hk]; exact List.getElem_mem hk, by rw [h]; simp⟩

theorem stsB_yes {xs : List Tr} (h : ∀ k, k < xs.length → stainB (atT xs k) = true) : stsB xs = true := by
  unfold stsB
  refine List.all_eq_true.2 fun x hx => ?_
  obtain ⟨k, hk, rfl⟩ := List.getElem_of_mem hx
  rw [atT_get hk]
  exact h k hk

theorem inR_yes {xs : List Int} {a b : Int} (h : ∀ k, k < xs.length → inB (atZ xs k) a b = true) : inR xs a b = true := by
  unfold inR
  refine List.all_eq_true.2 fun x hx => ?_
  obtain ⟨k, hk, rfl⟩ := List.getElem_of_mem hx
  rw [atZ_get hk]
  exact h k hk

/-- Stains in new memory, and a bool. -/
def TpsOk (T : TypeId) (xs : List Tr) (b : Bool) (w : World) (e : Ending) (w' : World) : Prop := ∃ v, e = .returned (.tuple #[v, .bool b]) ∧ Tps w' w.heap.size T v xs ∧ Below w.heap.size w w'

def colOk (cols : List Int) (table : List Tr) : Bool := stsB table && inR cols 0 ((table.length : Int) - 1)

def colT (cols : List Int) (table : List Tr) : List Tr := if colOk cols table = true then colM table cols else []

set_option maxRecDepth 100000 in
theorem implStains (xs : List Tr) (v : Value) (w : World) (hv : Trs w v xs) : Calls Tryz.prog 166 #[v] w (BoolIs (stsB xs) w) := by
  have HV := Lib.hid hv
  have hlen := hv.len
  obtain ⟨A, c, rfl⟩ := hv.form2
  clear hv
  have HNO := Lib.hid (fun k (hk : k < xs.length) h => stsB_no hk h)
  have HYES := Lib.hid (fun h => stsB_yes (xs := xs) h)
  generalize stsB xs = r at *
  go_enter Tryz.func166, Tryz.ntmps166
  go_wp2_with fail
  go_loopw [7] (fun i wr => ∃ k : Nat, k ≤ xs.length ∧ i = .int .i64 k ∧ (∀ j, j < k → stainB (atT xs j) = true) ∧ Held w wr []) (fun i _ => xs.length - (intOf i).toNat)
  case atStart => exact ⟨0, Nat.zero_le _, rfl, fun j hj => by omega, Held.none_ w⟩
  case round =>
    obtain ⟨k, hk, rfl, ha, hh⟩ := hrel
    have HA := Lib.hid ha; clear ha
    have H1 := Lib.hid hh; clear hh
    by_cases hlt : k < xs.length
    · obtain ⟨_, _, he, _, _, hcs⟩ := (HV.out.step H1.out.below).form
      injection he with he1 he2 he3
      obtain ⟨b, o, hA, hbl, hc0, hc1, hc2⟩ := hcs k hlt
      rw [← he1] at hA
      subst hA
      clear he1 he2 he3 hcs
      have HS := Lib.hid (implStain (atT xs k))
      have HN := Lib.hid (HNO.out k hlt)
      have HNX := Lib.hid (fun (h : stainB (atT xs k) = true) => (fun j (hj : j < k + 1) => (if e : j = k then e ▸ h else HA.out j (by omega)) : ∀ j, j < k + 1 → stainB (atT xs j) = true))
      have hz1 : (k : Int) < (xs.length : Int) := by omega
      have hz2 : (0 : Int) ≤ k := by omega
      generalize stainB (atT xs k) = d at *
      generalize atT xs k = t at *
      obtain ⟨x, y, z⟩ := t
      unfold Tr.val at HS
      simp only at HS hc0 hc1 hc2
      have H2 := Lib.hid (H1.out.new2 wr.heap.size rfl [.int .i64 x, .int .i64 y, .int .i64 z] 139)
      simp only [newFs, List.cons_append, List.nil_append, List.append_nil] at H2
      cases d
      · go_wp2_with fail
        obtain ⟨x0, x1, x2, _⟩ := H2.out.1
        go_wp2_with fail
        refine (HS.out _).mono ?_
        rintro e wH3 ⟨rfl, hb⟩
        have H3 := Lib.hid ((H2.out).step hb); clear hb
        try clear x0 x1 x2
        obtain ⟨x0, x1, x2, _⟩ := H3.out.1
        go_wp2_with fail
        go_ret
        exact ⟨ret_bool (HN.out trivial).symm, H3.out.below⟩
      · go_wp2_with fail
        obtain ⟨x0, x1, x2, _⟩ := H2.out.1
        go_wp2_with fail
        refine (HS.out _).mono ?_
        rintro e wH3 ⟨rfl, hb⟩
        have H3 := Lib.hid ((H2.out).step hb); clear hb
        try clear x0 x1 x2
        obtain ⟨x0, x1, x2, _⟩ := H3.out.1
        go_wp2_with fail
        exact ⟨⟨k + 1, by omega, by go_num, HNX.out trivial, H3.out.drop.drop.drop⟩, by simp [intOf]; omega⟩
    · obtain rfl : k = xs.length := by omega
      go_wp2_with fail
      go_ret
      exact ⟨ret_bool (HYES.out HA.out).symm, H1.out.below⟩

end Go.Proofs.YtepacoacalhdcaaGreat
