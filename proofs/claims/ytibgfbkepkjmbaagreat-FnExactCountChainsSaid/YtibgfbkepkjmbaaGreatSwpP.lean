/-
  The colors when two of them are exchanged along a list of faces, plainly.
-/
import Derived.Test.YtibgfbkepkjmbaaGreatChnS
import Derived.Test.YtibgfbkepkjmbaaGreatG23
namespace Go.Proofs.YtibgfbkepkjmbaaGreat
open Go.RowKit
set_option linter.unusedVariables false
set_option linter.unusedSimpArgs false

/-- The color that a face of the chain gets. -/
def swpC (xs : List Int) (f : Nat) (x : Int) (h : Int) : Int := if atZ xs h.toNat = x then atZ xs f else x

/-- The colors when the faces of a list have changed theirs. -/
def swpL (xs : List Int) (f : Nat) (x : Int) (T : List Int) : List Int := T.foldl (fun S h => S.set h.toNat (swpC xs f x h)) xs

theorem swp_nil (xs : List Int) (f : Nat) (x : Int) : swpL xs f x [] = xs := rfl

theorem swp_succ {xs : List Int} {f : Nat} {x : Int} {T : List Int} {k : Nat} (hk : k < T.length) : swpL xs f x (T.take (k + 1)) = (swpL xs f x (T.take k)).set (atZ T k).toNat (swpC xs f x (atZ T k)) := by
  unfold swpL
  rw [List.take_succ_eq_append_getElem hk, List.foldl_append, atZ_get hk]
  rfl

theorem set_fold_len (g : Int → Int) : ∀ (T : List Int) (S : List Int), (T.foldl (fun S h => S.set h.toNat (g h)) S).length = S.length
  | [], S => rfl
  | h :: T, S => by
    rw [List.foldl_cons, set_fold_len g T, List.length_set]

theorem swp_len (xs : List Int) (f : Nat) (x : Int) (T : List Int) : (swpL xs f x T).length = xs.length := set_fold_len _ T xs

/-- The sum of both colors minus one of them is the other one. -/
theorem swp_sum {xs : List Int} {f : Nat} {x h : Int} (hp : atZ xs h.toNat = x ∨ atZ xs h.toNat = atZ xs f) : atZ xs f + x - atZ xs h.toNat = swpC xs f x h := by
  unfold swpC
  split <;> rcases hp with e | e <;> omega

/-! ### the first thing found -/

def firstO {α : Type} (p : Nat → Option α) : Nat → Option α
  | 0 => none
  | n + 1 => match firstO p n with
    | some a => some a
    | none => p n

theorem firstO_none {α : Type} {p : Nat → Option α} : ∀ n, (∀ j, j < n → p j = none) → firstO p n = none
  | 0, _ => rfl
  | n + 1, h => by
    unfold firstO
    rw [firstO_none n fun j hj => h j (by omega)]
    exact h n (by omega)

theorem firstO_at {α : Type} {p : Nat → Option α} {k : Nat} {a : α} (hb : ∀ j, j < k → p j = none) (hk : p k = some a) : ∀ n, k < n → firstO p n = some a
  | 0, h => by omega
  | n + 1, h => by
    unfold firstO
    by_cases e : k = n
    · subst e
      rw [firstO_none k hb]
      exact hk
    · rw [firstO_at hb hk n (by omega)]

/-! ### another color for one face -/

/-- A color other than that of the face which none beside it has. -/
def othC (row xs : List Int) (f c : Nat) : Bool := !decide (atZ xs f = (c : Int)) && freeJ row xs c

/-- The first face of a row that has color x. -/
def hitC (row xs : List Int) (x : Int) : Nat → Bool := fun j => decide (atZ xs (atZ row j).toNat = x)

def hitJ (row xs : List Int) (x : Int) : Int := firstI (hitC row xs x) row.length

/-- The colors when x is taken away from all faces beside f by the swap of one chain, if that helps. -/
def freL (M : Nat → Nat → Bool) (N : Nat) (xs : List Int) (f x y : Nat) : Option (List Int) :=
  if x = y ∨ (x : Int) = atZ xs f ∨ (y : Int) = atZ xs f then none
  else
    let g := (atZ (rowM M N f) (hitJ (rowM M N f) xs x).toNat).toNat
    let l := swpL xs g y (chnL M (chnP xs g y) N g)
    if freeJ (rowM M N f) l x = true then some (l.set f x) else none

def freO (M : Nat → Nat → Bool) (N : Nat) (xs : List Int) (f n : Nat) : Option (List Int) := firstO (fun k => freL M N xs f (k / n) (k % n)) (n * n)

def othJ (M : Nat → Nat → Bool) (N : Nat) (xs : List Int) (f n : Nat) : Int := firstI (othC (rowM M N f) xs f) n

/-- What FreeFace returns for a face that is there, with proper colors. -/
def ffR (M : Nat → Nat → Bool) (N : Nat) (xs : List Int) (f n : Nat) : Bool × List Int :=
  if 0 ≤ othJ M N xs f n then (true, xs.set f (othJ M N xs f n))
  else match freO M N xs f n with
    | some l => (true, l)
    | none => (false, xs)

/-! ### how many chains there are -/

def otherC (xs : List Int) (x y : Int) (f : Nat) : Int := if atZ xs f = y then x else y

def ccP (M : Nat → Nat → Bool) (N : Nat) (xs : List Int) (x y : Int) (f : Nat) : Bool :=
  (decide (atZ xs f = x) || decide (atZ xs f = y)) && decide (atZ (chnL M (chnP xs f (otherC xs x y f)) N f) 0 = (f : Int))

def cntH (p : Nat → Bool) : Nat → Nat
  | 0 => 0
  | n + 1 => if p n = true then cntH p n + 1 else cntH p n

theorem cntH_le (p : Nat → Bool) : ∀ n, cntH p n ≤ n
  | 0 => Nat.le_refl _
  | n + 1 => by
    have := cntH_le p n
    unfold cntH
    split <;> omega
end Go.Proofs.YtibgfbkepkjmbaaGreat
