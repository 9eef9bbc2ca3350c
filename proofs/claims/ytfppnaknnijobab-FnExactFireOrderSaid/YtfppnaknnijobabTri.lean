/-
  Structs of three ints in view; what is asked of a firing, a stain, a sun.
-/
import Derived.Test.YtfppnaknnijobabShe
import Derived.Test.YtfppnaknnijobabSeq
import Derived.LoopTactic
import Derived.Outline
import Derived.Laws.StructEq
namespace Go.Proofs.Ytfppnaknnijobab
open Go.RowKit
set_option linter.unusedVariables false
set_option linter.unusedSimpArgs false

structure Tr where
  x : Int
  y : Int
  z : Int
deriving DecidableEq
def Tr.val (t : Tr) : Value := .agg #[.int .i64 t.x, .int .i64 t.y, .int .i64 t.z]
def TriIs (t : Tr) (w : World) (e : Ending) (w' : World) : Prop := e = .returned t.val ∧ Below w.heap.size w w'
theorem heldT1 (w : World) (a : Tr) (T : TypeId) : Held w (w.alloc (.cells #[.int .i64 a.x, .int .i64 a.y, .int .i64 a.z] T)) [(w.heap.size, 0, .int .i64 a.x), (w.heap.size, 1, .int .i64 a.y), (w.heap.size, 2, .int .i64 a.z)] :=
  (Held.none_ w).new2 w.heap.size rfl [.int .i64 a.x, .int .i64 a.y, .int .i64 a.z] T
theorem heldT2 (w : World) (a b : Tr) (T U : TypeId) : Held w ((w.alloc (.cells #[.int .i64 a.x, .int .i64 a.y, .int .i64 a.z] T)).alloc (.cells #[.int .i64 b.x, .int .i64 b.y, .int .i64 b.z] U)) [(w.heap.size + 1, 0, .int .i64 b.x), (w.heap.size + 1, 1, .int .i64 b.y), (w.heap.size + 1, 2, .int .i64 b.z), (w.heap.size, 0, .int .i64 a.x), (w.heap.size, 1, .int .i64 a.y), (w.heap.size, 2, .int .i64 a.z)] :=
  (heldT1 w a T).new2 (w.heap.size + 1) (by simp) [.int .i64 b.x, .int .i64 b.y, .int .i64 b.z] U

theorem toFiring_any (t : Tr) (w : World) :
    Calls Try.prog 99 #[t.val] w (TriIs t w) := by
  obtain ⟨x, y, z⟩ := t
  unfold Tr.val
  go_enter Try.func99, Try.ntmps99
  go_wp2_with fail
  refine bodyPost_ret (v := .agg #[.int .i64 x, .int .i64 y, .int .i64 z]) (by simp [results, Try.results99, go_sem]) rfl ⟨rfl, below3 w _ _ _⟩

theorem toStain_any (t : Tr) (w : World) :
    Calls Try.prog 69 #[t.val] w (TriIs t w) := by
  obtain ⟨x, y, z⟩ := t
  unfold Tr.val
  go_enter Try.func69, Try.ntmps69
  go_wp2_with fail
  refine bodyPost_ret (v := .agg #[.int .i64 x, .int .i64 y, .int .i64 z]) (by simp [results, Try.results69, go_sem]) rfl ⟨rfl, below3 w _ _ _⟩

/-- Each of the three is in its range. -/
def triB (a1 a2 b1 b2 c1 c2 : Int) (t : Tr) : Bool := inB t.x a1 a2 && inB t.y b1 b2 && inB t.z c1 c2
theorem triB_iff (a1 a2 b1 b2 c1 c2 : Int) (t : Tr) : triB a1 a2 b1 b2 c1 c2 t = true ↔ (a1 ≤ t.x ∧ t.x ≤ a2) ∧ (b1 ≤ t.y ∧ t.y ≤ b2) ∧ (c1 ≤ t.z ∧ t.z ≤ c2) := by simp [triB, inB, and_assoc]
def fireB (t : Tr) : Bool := triB 400 900 1 24 1 100 t
def stainB (t : Tr) : Bool := triB 0 1000 0 1000 0 1000 t
def sunB (t : Tr) : Bool := triB (-1000) 1000 1 1000 1 100 t

theorem implFire (f : Tr) (w : World) :
    Calls Try.prog 120 #[f.val] w (BoolIs (fireB f) w) := by
  obtain ⟨x, y, z⟩ := f
  have hr : fireB ⟨x, y, z⟩ = decide ((400 ≤ x ∧ x ≤ 900) ∧ (1 ≤ y ∧ y ≤ 24) ∧ (1 ≤ z ∧ z ≤ 100)) := by rw [Bool.eq_iff_iff, fireB, triB_iff]; simp
  unfold Tr.val
  generalize fireB ⟨x, y, z⟩ = r at *
  have HR := Lib.hid hr; clear hr
  go_enter Try.func120, Try.ntmps120
  go_wp2
  all_goals
    go_ret
    exact ⟨ret_bool (by rw [HR.out, Bool.eq_iff_iff]; simp; omega), (Below.refl _ _).alloc (Nat.le_refl _) _⟩

theorem specFiringOk (f : Tr) (w : World) :
    Calls Try.prog 117 #[f.val] w (BoolIs (fireB f) w) := by
  have HA := Lib.hid (fun w => specInB f.x 400 900 w)
  have HB := Lib.hid (fun w => specInB f.y 1 24 w)
  have HC := Lib.hid (fun w => specInB f.z 1 100 w)
  have HR := Lib.hid (show fireB f = (inB f.x 400 900 && inB f.y 1 24 && inB f.z 1 100) from rfl)
  have H0 := Lib.hid (heldT1 w f 130)
  obtain ⟨x, y, z⟩ := f
  simp only at HA HB HC HR H0
  generalize fireB ⟨x, y, z⟩ = r at *
  generalize inB x 400 900 = d1 at *
  generalize inB y 1 24 = d2 at *
  generalize inB z 1 100 = d3 at *
  unfold Tr.val at *
  cases d1 <;> cases d2 <;> cases d3
  all_goals
    go_enter Try.func117, Try.ntmps117
    go_wp2_with fail
    repeat' (first | ((first | (with_reducible refine (HA.out _).mono ?_) | (with_reducible refine (HB.out _).mono ?_) | (with_reducible refine (HC.out _).mono ?_) | fail); rintro e wn ⟨rfl, hb⟩; have H0 := Lib.hid (H0.out.step hb); clear hb; (try clear x0 x1 x2); obtain ⟨x0, x1, x2, _⟩ := H0.out.1; go_wp2_with fail) | fail)
    go_ret
    exact ⟨ret_bool (by rw [HR.out]; simp), H0.out.below⟩

theorem specStainOk (f : Tr) (w : World) :
    Calls Try.prog 67 #[f.val] w (BoolIs (stainB f) w) := by
  have HA := Lib.hid (fun w => specInB f.x 0 1000 w)
  have HB := Lib.hid (fun w => specInB f.y 0 1000 w)
  have HC := Lib.hid (fun w => specInB f.z 0 1000 w)
  have HR := Lib.hid (show stainB f = (inB f.x 0 1000 && inB f.y 0 1000 && inB f.z 0 1000) from rfl)
  have H0 := Lib.hid (heldT1 w f 25)
  obtain ⟨x, y, z⟩ := f
  simp only at HA HB HC HR H0
  generalize stainB ⟨x, y, z⟩ = r at *
  generalize inB x 0 1000 = d1 at *
  generalize inB y 0 1000 = d2 at *
  generalize inB z 0 1000 = d3 at *
  unfold Tr.val at *
  cases d1 <;> cases d2 <;> cases d3
  all_goals
    go_enter Try.func67, Try.ntmps67
    go_wp2_with fail
    repeat' (first | ((first | (with_reducible refine (HA.out _).mono ?_) | (with_reducible refine (HB.out _).mono ?_) | (with_reducible refine (HC.out _).mono ?_) | fail); rintro e wn ⟨rfl, hb⟩; have H0 := Lib.hid (H0.out.step hb); clear hb; (try clear x0 x1 x2); obtain ⟨x0, x1, x2, _⟩ := H0.out.1; go_wp2_with fail) | fail)
    go_ret
    exact ⟨ret_bool (by rw [HR.out]; simp), H0.out.below⟩

def inR (xs : List Int) (a b : Int) : Bool := xs.all fun x => inB x a b
set_option maxRecDepth 100000 in
theorem implInR (xs : List Int) (v : Value) (a b : Int) (w : World) (hv : Seq w v xs) : Calls Try.prog 83 #[v, .int .i64 a, .int .i64 b] w (BoolIs (inR xs a b) w) := by
  have hlen := hv.len
  obtain ⟨A, c, rfl, _, _, hcs⟩ := hv.form
  clear hv
  have HR := Lib.hid (show inR xs a b = xs.all fun x => inB x a b from rfl)
  generalize inR xs a b = r at *
  go_enter Try.func83, Try.ntmps83
  go_wp2_with fail
  go_loopw [11] (fun i wr => ∃ m : Nat, m ≤ xs.length ∧ i = .int .i64 m ∧ ((xs.take m).all fun x => inB x a b) = true ∧ wr = w) (fun i _ => xs.length - (intOf i).toNat)
  case atStart => exact ⟨0, Nat.zero_le _, rfl, by simp, rfl⟩
  case round =>
    obtain ⟨m, hm, rfl, ha, rfl⟩ := hrel
    have HA := Lib.hid ha; clear ha
    by_cases hlt : m < xs.length
    · obtain ⟨bb, o, rfl, hbl, hc⟩ := hcs m hlt
      have HT := Lib.hid (show xs.take (m + 1) = xs.take m ++ [atZ xs m] from by rw [List.take_succ_eq_append_getElem hlt, atZ_get hlt])
      have HM := Lib.hid (show atZ xs m ∈ xs from by rw [← atZ_get hlt]; exact List.getElem_mem hlt)
      have hz1 : (m : Int) < (xs.length : Int) := by omega
      have hz2 : (0 : Int) ≤ m := by omega
      generalize atZ xs m = z at *
      by_cases h1 : z < a
      · have H1 := Lib.hid h1
        go_wp2_with fail
        go_ret
        exact ⟨ret_bool (by rw [HR.out]; exact (List.all_eq_false.2 ⟨z, HM.out, by have := H1.out; simp [inB]; omega⟩).symm), Below.refl _ _⟩
      · by_cases h2 : b < z
        · have H1 := Lib.hid h2
          go_wp2_with fail
          go_ret
          exact ⟨ret_bool (by rw [HR.out]; exact (List.all_eq_false.2 ⟨z, HM.out, by have := H1.out; simp [inB]; omega⟩).symm), Below.refl _ _⟩
        · have H1 := Lib.hid h1
          have H2 := Lib.hid h2
          go_wp2_with fail
          exact ⟨⟨m + 1, by omega, by go_num, by rw [HT.out, List.all_append, HA.out]; have := H1.out; have := H2.out; simp [inB]; omega, trivial⟩, by simp [intOf]; omega⟩
    · obtain rfl : m = xs.length := by omega
      go_wp2_with fail
      go_ret
      exact ⟨ret_bool (by rw [HR.out, ← HA.out, List.take_length]), Below.refl _ _⟩

theorem Ints.lit (w : World) (b B : Nat) (hb : b = w.heap.size) (hB : B ≤ b) (xs : List Int) (h : xs.length ≤ 1000000) (cs : Array Value) (hc : cs = (xs.map fun x => Value.int .i64 x).toArray) :
    Ints (w.alloc (.cells cs 3)) B (.slice (some ⟨b, 0, none⟩) xs.length xs.length) xs := by
  subst hb hc
  have := World.ownsRow_lit (base := B) (e := 3) (size := 1) w (xs.map fun x => Value.int .i64 x).toArray xs.length hB (by unfold maxLen; omega) (by simp)
  unfold Ints
  simpa using this

set_option maxRecDepth 100000 in
theorem implStain (f : Tr) (w : World) :
    Calls Try.prog 159 #[f.val] w (BoolIs (stainB f) w) := by
  have H0 := Lib.hid (heldT1 w f 25)
  have HA := fun v w hv => implInR [f.x, f.y, f.z] v 0 1000 w hv
  have hr : inR [f.x, f.y, f.z] 0 1000 = stainB f := by simp [inR, stainB, triB, Bool.and_assoc]
  rw [hr] at HA
  have HA := Lib.hid HA
  clear hr
  obtain ⟨x, y, z⟩ := f
  generalize stainB ⟨x, y, z⟩ = r at *
  unfold Tr.val
  simp only at H0 HA
  go_enter Try.func159, Try.ntmps159
  go_wp2_with fail
  refine (HA.out _ _ (Ints.lit (w.alloc (.cells #[.int .i64 x, .int .i64 y, .int .i64 z] 25)) (w.heap.size + 1) 0 (by simp) (by omega) [x, y, z] (by simp) _ rfl).seq).mono ?_
  rintro e w' ⟨rfl, hb⟩
  have H1 := Lib.hid ((H0.out.alloc _).step hb); clear hb
  go_wp2_with fail
  go_ret
  exact ⟨rfl, H1.out.below⟩

end Go.Proofs.Ytfppnaknnijobab
