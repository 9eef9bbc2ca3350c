/-
  Nodes that are joined by leads, plainly: labels that leads level, and lists that leads close.
-/
import Derived.Test.YtghpbdgghliieacAroP
namespace Go.Proofs.Ytghpbdgghliieac
open Go.RowKit
set_option linter.unusedVariables false
set_option linter.unusedSimpArgs false

/-- The numbers before n at which p holds. -/
def fltN (p : Nat → Bool) : Nat → List Int
  | 0 => []
  | n + 1 => if p n = true then fltN p n ++ [(n : Int)] else fltN p n
theorem fltN_mem (p : Nat → Bool) : ∀ n x, x ∈ fltN p n ↔ ∃ i : Nat, x = i ∧ i < n ∧ p i = true
  | 0, x => by simp [fltN]
  | n + 1, x => by
    have ih := fltN_mem p n x
    unfold fltN
    split
    · rename_i hp
      rw [List.mem_append, ih]
      constructor
      · rintro (⟨i, e, hi, h⟩ | h)
        · exact ⟨i, e, by omega, h⟩
        · exact ⟨n, by simpa using h, by omega, hp⟩
      · rintro ⟨i, e, hi, h⟩
        by_cases hin : i = n
        · subst hin; exact .inr (by simpa using e)
        · exact .inl ⟨i, e, by omega, h⟩
    · rename_i hp
      rw [ih]
      constructor
      · rintro ⟨i, e, hi, h⟩; exact ⟨i, e, by omega, h⟩
      · rintro ⟨i, e, hi, h⟩
        refine ⟨i, e, ?_, h⟩
        by_cases hin : i = n
        · subst hin; exact absurd h hp
        · omega
theorem fltN_len (p : Nat → Bool) : ∀ n, (fltN p n).length ≤ n
  | 0 => Nat.le_refl _
  | n + 1 => by
    have := fltN_len p n
    unfold fltN
    split
    · simp; omega
    · omega
theorem fltN_asc (p : Nat → Bool) : ∀ n, (fltN p n).Pairwise (· < ·)
  | 0 => List.Pairwise.nil
  | n + 1 => by
    have ih := fltN_asc p n
    unfold fltN
    split
    · rw [List.pairwise_append]
      refine ⟨ih, by simp, fun a ha b hb => ?_⟩
      obtain ⟨i, rfl, hi, _⟩ := (fltN_mem p n a).1 ha
      obtain rfl : b = n := by simpa using hb
      omega
    · exact ih
theorem asc_ext : ∀ {l m : List Int}, l.Pairwise (· < ·) → m.Pairwise (· < ·) → (∀ x, x ∈ l ↔ x ∈ m) → l = m
  | [], [], _, _, _ => rfl
  | [], b :: t, _, _, h => by have := (h b).2 (by simp); simp at this
  | a :: s, [], _, _, h => by have := (h a).1 (by simp); simp at this
  | a :: s, b :: t, hl, hm, h => by
    obtain ⟨ha, hs⟩ := List.pairwise_cons.1 hl
    obtain ⟨hb, ht⟩ := List.pairwise_cons.1 hm
    have hab : a = b := by
      have h1 := (h a).1 (by simp)
      have h2 := (h b).2 (by simp)
      rcases List.mem_cons.1 h1 with e | h1
      · exact e
      · rcases List.mem_cons.1 h2 with e | h2
        · exact e.symm
        · have := ha b h2; have := hb a h1; omega
    subst hab
    congr 1
    refine asc_ext hs ht fun x => ⟨fun hx => ?_, fun hx => ?_⟩
    · have := (h x).1 (List.mem_cons_of_mem _ hx)
      rcases List.mem_cons.1 this with e | h2
      · have := ha x hx; omega
      · exact h2
    · have := (h x).2 (List.mem_cons_of_mem _ hx)
      rcases List.mem_cons.1 this with e | h2
      · have := hb x hx; omega
      · exact h2
theorem nodup_le : ∀ (n : Nat) (l : List Int), l.Nodup → (∀ x ∈ l, ∃ q : Nat, x = q ∧ q < n) → l.length ≤ n
  | 0, l, _, h => by
    cases l with
    | nil => simp
    | cons a t => obtain ⟨q, _, hq⟩ := h a (by simp); omega
  | n + 1, l, hn, h => by
    have ih := nodup_le n (l.erase (n : Int)) (hn.erase _) (fun x hx => by
      rw [hn.mem_erase_iff] at hx
      obtain ⟨q, e, hq⟩ := h x hx.2
      exact ⟨q, e, by have := hx.1; omega⟩)
    by_cases hm : (n : Int) ∈ l
    · rw [List.length_erase_of_mem hm] at ih; omega
    · rw [List.erase_of_not_mem hm] at ih; omega

/-- The label of node i behind the first k leads: each lead levels the labels of its ends. -/
def lab (ls : List Nd) : Nat → Nat → Nat
  | 0, i => i
  | k + 1, i => if lab ls k i = max (lab ls k (atN ls k).x.toNat) (lab ls k (atN ls k).y.toNat) then min (lab ls k (atN ls k).x.toNat) (lab ls k (atN ls k).y.toNat) else lab ls k i
theorem lab_le (ls : List Nd) : ∀ k i, lab ls k i ≤ i
  | 0, i => Nat.le_refl _
  | k + 1, i => by
    have h1 := lab_le ls k i
    unfold lab
    split
    · omega
    · exact h1
theorem lab_lab (ls : List Nd) : ∀ k i, lab ls k (lab ls k i) = lab ls k i
  | 0, i => rfl
  | k + 1, i => by
    have ih := lab_lab ls k
    have e : ∀ x, lab ls (k + 1) x = if lab ls k x = max (lab ls k (atN ls k).x.toNat) (lab ls k (atN ls k).y.toNat) then min (lab ls k (atN ls k).x.toNat) (lab ls k (atN ls k).y.toNat) else lab ls k x := fun x => rfl
    have ha := ih (atN ls k).x.toNat
    have hb := ih (atN ls k).y.toNat
    have hi := ih i
    simp only [e]
    generalize lab ls k (atN ls k).x.toNat = a at *
    generalize lab ls k (atN ls k).y.toNat = b at *
    generalize hq : lab ls k i = q at *
    have hm : lab ls k (min a b) = min a b := by
      rcases Nat.le_total a b with h | h
      · rw [Nat.min_eq_left h]; exact ha
      · rw [Nat.min_eq_right h]; exact hb
    by_cases h1 : q = max a b
    · rw [if_pos h1, hm]
      split <;> rfl
    · rw [if_neg h1, hi, if_neg h1]
theorem lab_lead (ls : List Nd) : ∀ k j, j < k → lab ls k (atN ls j).x.toNat = lab ls k (atN ls j).y.toNat
  | k + 1, j, h => by
    have e : ∀ x, lab ls (k + 1) x = if lab ls k x = max (lab ls k (atN ls k).x.toNat) (lab ls k (atN ls k).y.toNat) then min (lab ls k (atN ls k).x.toNat) (lab ls k (atN ls k).y.toNat) else lab ls k x := fun x => rfl
    by_cases hj : j = k
    · subst hj
      rw [e, e]
      generalize lab ls j (atN ls j).x.toNat = a
      generalize lab ls j (atN ls j).y.toNat = b
      split <;> split <;> omega
    · rw [e, e, lab_lead ls k j (by omega)]

/-- What is in S with one end of a lead has the other end too. -/
def Closed (ls : List Nd) (S : List Int) (x : Int) (n : Nat) : Prop := ∀ j, j < n → 0 ≤ otherI (atN ls j) x → otherI (atN ls j) x ∈ S
/-- A list on its way: it begins with q, holds nodes joined with q alone, none twice, and the first i of them are done with. -/
structure Way (ns ls : List Nd) (q : Nat) (S : List Int) (i : Nat) : Prop where
  mem : (q : Int) ∈ S
  nodup : S.Nodup
  node : ∀ x ∈ S, ∃ p : Nat, x = p ∧ p < ns.length ∧ lab ls ls.length p = lab ls ls.length q
  done : ∀ j, j < i → Closed ls S (atZ S j) ls.length
theorem Closed.more {ls : List Nd} {S : List Int} {x : Int} {n : Nat} (h : Closed ls S x n) (y : Int) : Closed ls (S ++ [y]) x n := fun j hj h0 => List.mem_append_left _ (h j hj h0)
theorem atZ_more {S : List Int} {y : Int} {j : Nat} (h : j < S.length) : atZ (S ++ [y]) j = atZ S j := by
  unfold atZ
  simp [List.getD, List.getElem?_append, h]
theorem Way.len {ns ls : List Nd} {q i : Nat} {S : List Int} (h : Way ns ls q S i) : S.length ≤ ns.length := nodup_le _ _ h.nodup fun x hx => by
  obtain ⟨p, e, hp, _⟩ := h.node x hx
  exact ⟨p, e, hp⟩
theorem Way.start {ns ls : List Nd} {q : Nat} (hq : q < ns.length) : Way ns ls q [(q : Int)] 0 :=
  ⟨by simp, by simp, fun x hx => ⟨q, by simpa using hx, hq, rfl⟩, fun j hj => by omega⟩
theorem Way.put {ns ls : List Nd} {q i : Nat} {S : List Int} {y : Int} (h : Way ns ls q S i) (hi : i ≤ S.length) (hy : y ∉ S) (hn : ∃ p : Nat, y = p ∧ p < ns.length ∧ lab ls ls.length p = lab ls ls.length q) : Way ns ls q (S ++ [y]) i :=
  ⟨List.mem_append_left _ h.mem, by rw [List.nodup_append]; exact ⟨h.nodup, by simp, fun a ha b hb e => by obtain rfl : b = y := (by simpa using hb); exact hy (e ▸ ha)⟩,
   fun x hx => by
    rcases List.mem_append.1 hx with hx | hx
    · exact h.node x hx
    · obtain rfl : x = y := by simpa using hx
      exact hn,
   fun j hj => by rw [atZ_more (by omega)]; exact (h.done j hj).more y⟩
theorem Way.next {ns ls : List Nd} {q i : Nat} {S : List Int} (h : Way ns ls q S i) (hc : Closed ls S (atZ S i) ls.length) : Way ns ls q S (i + 1) :=
  ⟨h.mem, h.nodup, h.node, fun j hj => by
    by_cases e : j = i
    · subst e; exact hc
    · exact h.done j (by omega)⟩
/-- The other end of a lead is a node, and joined. -/
theorem other_lab {ns ls : List Nd} (hw : winB ns ls = true) {j p : Nat} (hj : j < ls.length) (h0 : 0 ≤ otherI (atN ls j) p) :
    ∃ r : Nat, otherI (atN ls j) p = r ∧ r < ns.length ∧ lab ls ls.length r = lab ls ls.length p ∧ ((atN ls j).x = p ∧ (atN ls j).y = r ∨ (atN ls j).x = r ∧ (atN ls j).y = p) := by
  have hl := lab_lead ls ls.length j hj
  obtain ⟨a, b, e, hab, ha, hb, _⟩ := leadOkB_spec (((winB_iff ns ls).1 hw).2.2 j hj).1
  rw [e] at hl h0 ⊢
  simp only [Int.toNat_natCast] at hl
  unfold otherI at h0 ⊢
  simp only at h0 ⊢
  by_cases h1 : (p : Int) = (a : Int)
  · obtain rfl : p = a := by omega
    exact ⟨b, by simp, hb, hl.symm, .inl ⟨rfl, rfl⟩⟩
  · by_cases h2 : (p : Int) = (b : Int)
    · obtain rfl : p = b := by omega
      exact ⟨a, by rw [if_neg h1]; simp, ha, hl, .inr ⟨rfl, rfl⟩⟩
    · rw [if_neg h1, if_neg h2] at h0; omega
/-- A list that is done with has just the nodes that have one label. -/
theorem Way.all {ns ls : List Nd} {q : Nat} {S : List Int} (hw : winB ns ls = true) (h : Way ns ls q S S.length) {p : Nat} (hp : p < ns.length) : (p : Int) ∈ S ↔ lab ls ls.length p = lab ls ls.length q := by
  constructor
  · intro hm
    obtain ⟨r, e, _, hl⟩ := h.node _ hm
    obtain rfl : p = r := by omega
    exact hl
  · have key : ∀ k, k ≤ ls.length → ∀ a b : Nat, a < ns.length → b < ns.length → lab ls k a = lab ls k b → ((a : Int) ∈ S → (b : Int) ∈ S) := by
      intro k
      induction k with
      | zero => intro _ a b _ _ e hm; obtain rfl : a = b := e; exact hm
      | succ k ih =>
        intro hk a b ha hb e hm
        have ihk := ih (by omega)
        obtain ⟨x, y, el, hxy, hx, hy, _⟩ := leadOkB_spec (((winB_iff ns ls).1 hw).2.2 k (by omega)).1
        have step : ∀ u v : Nat, ((atN ls k).x = (u : Int) ∧ (atN ls k).y = (v : Int) ∨ (atN ls k).x = (v : Int) ∧ (atN ls k).y = (u : Int)) → (u : Int) ∈ S → (v : Int) ∈ S := by
          intro u v huv hu
          obtain ⟨i, hi, hat⟩ := List.getElem_of_mem hu
          have hz : atZ S i = (u : Int) := by rw [← atZ_get hi, hat]
          have hc := h.done i hi k (by omega)
          rw [hz] at hc
          have ho : otherI (atN ls k) u = v := by
            unfold otherI
            rcases huv with ⟨e1, e2⟩ | ⟨e1, e2⟩
            · rw [if_pos e1.symm]; exact e2
            · by_cases huv' : (u : Int) = (atN ls k).x
              · rw [if_pos huv']; omega
              · rw [if_neg huv', if_pos e2.symm]; exact e1
          rw [ho] at hc
          exact hc (by omega)
        have sxy : (x : Int) ∈ S → (y : Int) ∈ S := step x y (.inl ⟨by rw [el], by rw [el]⟩)
        have syx : (y : Int) ∈ S → (x : Int) ∈ S := step y x (.inr ⟨by rw [el], by rw [el]⟩)
        have ee : ∀ i, lab ls (k + 1) i = if lab ls k i = max (lab ls k x) (lab ls k y) then min (lab ls k x) (lab ls k y) else lab ls k i := fun i => by
          rw [lab, el]; simp only [Int.toNat_natCast]
        rw [ee, ee] at e
        by_cases e0 : lab ls k a = lab ls k b
        · exact ihk a b ha hb e0 hm
        · have ax := ihk a x ha hx
          have ay := ihk a y ha hy
          have xb := ihk x b hx hb
          have yb := ihk y b hy hb
          generalize lab ls k a = la at *
          generalize lab ls k b = lb at *
          generalize lab ls k x = lx at *
          generalize lab ls k y = ly at *
          by_cases h1 : la = max lx ly
          · rw [if_pos h1] at e
            by_cases h2 : lb = max lx ly
            · omega
            · rw [if_neg h2] at e
              rcases Nat.le_total lx ly with hle | hle
              · exact xb (by omega) (syx (ay (by omega) hm))
              · exact yb (by omega) (sxy (ax (by omega) hm))
          · rw [if_neg h1] at e
            by_cases h2 : lb = max lx ly
            · rw [if_pos h2] at e
              rcases Nat.le_total lx ly with hle | hle
              · exact yb (by omega) (sxy (ax (by omega) hm))
              · exact xb (by omega) (syx (ay (by omega) hm))
            · rw [if_neg h2] at e; exact absurd e e0
    intro e
    obtain ⟨r, er, hr, _⟩ := h.node _ h.mem
    exact key ls.length (Nat.le_refl _) q p (by omega) hp e.symm h.mem
def partL (ns ls : List Nd) (q : Nat) : List Int := fltN (fun p => decide (lab ls ls.length p = lab ls ls.length q)) ns.length
theorem Way.sorted {ns ls : List Nd} {q : Nat} {S : List Int} (hw : winB ns ls = true) (h : Way ns ls q S S.length) : S.mergeSort (fun x y => decide (x ≤ y)) = partL ns ls q := by
  have hp := List.mergeSort_perm S (fun x y => decide (x ≤ y))
  have hs : (S.mergeSort (fun x y => decide (x ≤ y))).Pairwise (fun a b => a ≤ b) := by
    have := List.pairwise_mergeSort (le := fun x y : Int => decide (x ≤ y)) (by simp; omega) (by simp; omega) S
    simpa using this
  have hn : (S.mergeSort (fun x y => decide (x ≤ y))).Nodup := hp.nodup_iff.2 h.nodup
  refine asc_ext ?_ (fltN_asc _ _) fun x => ?_
  · have := List.Pairwise.and hs hn
    exact this.imp fun ⟨h1, h2⟩ => by omega
  · rw [hp.mem_iff]
    unfold partL
    rw [fltN_mem]
    constructor
    · intro hx
      obtain ⟨p, e, hp, hl⟩ := h.node x hx
      exact ⟨p, e, hp, by simpa using hl⟩
    · rintro ⟨p, rfl, hp, hl⟩
      exact (h.all hw hp).2 (by simpa using hl)
end Go.Proofs.Ytghpbdgghliieac
