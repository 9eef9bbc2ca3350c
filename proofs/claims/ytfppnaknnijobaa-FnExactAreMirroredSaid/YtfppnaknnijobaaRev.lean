/-
  slices.Reverse of a list of nodes in memory of a call's own.
-/
import Derived.Test.YtfppnaknnijobaaMarkO
import Derived.Test.YtfppnaknnijobaaSameS
import Derived.BigRegion
namespace Go.Proofs.Ytfppnaknnijobaa
open Go.RowKit
set_option linter.unusedVariables false
set_option linter.unusedSimpArgs false

/-- The first k nodes and the last k, exchanged. -/
def exN (xs : List Nd) : Nat → List Nd
  | 0 => xs
  | k + 1 => ((exN xs k).set k ⟨(atN xs (xs.length - 1 - k)).x, (atN xs (xs.length - 1 - k)).y⟩).set (xs.length - 1 - k) ⟨(atN xs k).x, (atN xs k).y⟩
theorem exN_succ (xs : List Nd) (k : Nat) : exN xs (k + 1) = ((exN xs k).set k ⟨(atN xs (xs.length - 1 - k)).x, (atN xs (xs.length - 1 - k)).y⟩).set (xs.length - 1 - k) ⟨(atN xs k).x, (atN xs k).y⟩ := rfl
theorem exN_len (xs : List Nd) : ∀ k, (exN xs k).length = xs.length
  | 0 => rfl
  | k + 1 => by rw [exN_succ, List.length_set, List.length_set, exN_len xs k]
theorem atN_set {xs : List Nd} {i j : Nat} {n : Nd} (hi : i < xs.length) : atN (xs.set i n) j = if i = j then n else atN xs j := by
  unfold atN
  by_cases h : i = j
  · subst h; rw [if_pos rfl]; simp [List.getD, hi]
  · rw [if_neg h]; simp [List.getD, List.getElem?_set, h]
theorem exN_at (xs : List Nd) (j : Nat) (hj : j < xs.length) : ∀ k, 2 * k ≤ xs.length → atN (exN xs k) j = if j < k ∨ xs.length - 1 - j < k then atN xs (xs.length - 1 - j) else atN xs j
  | 0, _ => by rw [if_neg (by omega)]; rfl
  | k + 1, h => by
    rw [exN_succ, atN_set (by rw [List.length_set, exN_len]; omega), atN_set (by rw [exN_len]; omega), exN_at xs j hj k (by omega)]
    by_cases h1 : xs.length - 1 - k = j
    · rw [if_pos h1, if_pos (by omega), show xs.length - 1 - j = k by omega]
    · rw [if_neg h1]
      by_cases h2 : k = j
      · subst h2
        rw [if_pos rfl, if_pos (by omega)]
      · rw [if_neg h2]
        by_cases h3 : j < k ∨ xs.length - 1 - j < k
        · rw [if_pos h3, if_pos (by omega)]
        · rw [if_neg h3, if_neg (by omega)]
theorem exN_all (xs : List Nd) (k : Nat) (h1 : 2 * k ≤ xs.length) (h2 : xs.length ≤ 2 * k + 1) : exN xs k = xs.reverse := by
  refine list_ext_at (by rw [exN_len, List.length_reverse]) fun j hj => ?_
  rw [exN_len] at hj
  rw [exN_at xs j hj k h1]
  have e : atN xs.reverse j = atN xs (xs.length - 1 - j) := by
    unfold atN
    rw [List.getD, List.getD, List.getElem?_reverse hj]
  rw [e]
  by_cases h3 : j < k ∨ xs.length - 1 - j < k
  · rw [if_pos h3]
  · rw [if_neg h3, show xs.length - 1 - j = j by omega]

theorem grown_drew {w wr : World} {r : Option Nat} (a : w.grownBy wr r) : w.grownBy wr.drew r := ⟨a.1, a.2, a.3, a.4, a.5⟩
set_option maxRecDepth 100000 in
set_option maxHeartbeats 4000000 in
theorem implRev {B : Nat} {T : TypeId} {w : World} {xs : List Nd} {g c : Nat} (h : Own w B T (.slice (some ⟨g, 0, none⟩) xs.length c) xs) (hlen : xs.length ≤ 1048576) :
    Calls Try.prog 92 #[.slice (some ⟨g, 0, none⟩) xs.length c] w fun e w' => e = .returned (.tuple #[]) ∧ Own w' B T (.slice (some ⟨g, 0, none⟩) xs.length c) xs.reverse ∧ w.grownBy w' (some g) := by
  have HO := Lib.hid h
  clear h
  have HZ := Lib.hid (show exN xs 0 = xs from rfl)
  have HU := Lib.hid (exN_succ xs)
  have HLN := Lib.hid (exN_len xs)
  have HAT := Lib.hid (fun j hj k hk => exN_at xs j hj k hk)
  have HE := Lib.hid (fun k h1 h2 => exN_all xs k h1 h2)
  generalize xs.reverse = R at *
  generalize exN xs = X at *
  go_enter Try.func92, Try.ntmps92
  go_wp2_with fail
  go_loopw [2, 3] (fun i j wr => ∃ k : Nat, 2 * k ≤ xs.length + 1 ∧ (2 * k ≤ xs.length ∨ xs.length = 0) ∧ i = .int .i64 k ∧ j = .int .i64 ((xs.length : Int) - 1 - k) ∧ Own wr B T (.slice (some ⟨g, 0, none⟩) xs.length c) (X k) ∧ w.grownBy wr (some g)) (fun i _ _ => xs.length - (intOf i).toNat)
  case atStart => exact ⟨0, by omega, by omega, rfl, by congr 1; omega, by rw [HZ.out]; exact HO.out, ⟨rfl, rfl, rfl, Nat.le_refl _, fun _ _ _ => rfl⟩⟩
  case round =>
    clear HO
    obtain ⟨k, hk, hk2, rfl, rfl, how, hgr⟩ := hrel
    have HGR := Lib.hid hgr; clear hgr
    have hll := HLN.out k
    by_cases hlt : (k : Int) < (xs.length : Int) - 1 - k
    · obtain ⟨_, _, he, _, _, hxx⟩ := how.form
      have HOW := Lib.hid how; clear how
      rcases hxx with ⟨_, h0⟩ | ⟨g', hA, _, _, hcs⟩
      · rw [h0] at hll; simp at hll; omega
      injection he with e1 e2 e3
      rw [← e1] at hA
      injection hA with hA
      injection hA with hA
      subst hA
      obtain ⟨j, hj0⟩ : ∃ j, xs.length - 1 - k = j := ⟨_, rfl⟩
      have hij : (xs.length : Int) - 1 - (k : Int) = (j : Int) := by omega
      have hjl : j < xs.length := by omega
      have hkl : k < xs.length := by omega
      have HUK := Lib.hid (HU.out k)
      have HAK := Lib.hid ((HAT.out k hkl k (by omega)).trans (if_neg (by omega)))
      have HAJ := Lib.hid ((HAT.out j hjl k (by omega)).trans (if_neg (by omega)))
      rw [hj0] at HUK
      obtain ⟨g0, g1, f0, f1⟩ := hcs k (by omega)
      obtain ⟨g2, g3, f2, f3⟩ := hcs j (by omega)
      rw [HAK.out] at g0 g1
      rw [HAJ.out] at g2 g3
      clear e1 e2 e3 hcs
      have hset := fun wr' (i : Nat) (hi : i < xs.length) (a b : Int) ys (hys : ys.length = xs.length) (h : Own wr' B T (.slice (some ⟨g, 0, none⟩) xs.length c) ys) => (hys ▸ Own.set_ (hys.symm ▸ h) i (by omega) a b : Own _ B T (.slice (some ⟨g, 0, none⟩) xs.length c) _)
      have HSET := Lib.hid hset; clear hset
      rw [hij] at hlt ⊢
      have hjk : k < j := by omega
      have hk3 : 2 * (k + 1) ≤ xs.length := by omega
      clear hll hj0
      have HIJ := Lib.hid hij; clear hij
      generalize atN xs k = n at *
      generalize atN xs j = n2 at *
      obtain ⟨p, q⟩ := n
      obtain ⟨p2, q2⟩ := n2
      simp only at g0 g1 g2 g3 HUK
      have r1 : (0 : Int) ≤ k := by omega
      have r2 : (k : Int) < (xs.length : Int) := by omega
      have r3 : (0 : Int) ≤ j := by omega
      have r4 : (j : Int) < (xs.length : Int) := by omega
      go_wp2_with fail
      go_big_region
      all_goals go_wp2_with fail
      refine ⟨⟨k + 1, by omega, .inl hk3, by go_num, by have := HIJ.out; congr 1; push_cast; omega, ?_, by exact (grown_drew (grown_set (grown_set (grown_set (grown_set HGR.out)))))⟩, by simp [intOf]; omega⟩
      rw [HUK.out]
      have o1 := HSET.out _ k hkl p2 q2 _ (HLN.out k) HOW.out
      have o2 := HSET.out _ j hjl p q _ (by rw [List.length_set]; exact HLN.out k) o1
      exact o2.step ((Below.refl _ _).drew)
    · have HOW := Lib.hid how; clear how
      have HKR := Lib.hid (show X k = R from by
        rcases hk2 with h | h
        · exact HE.out k h (by omega)
        · have hk0 : k = 0 := by omega
          rw [hk0]
          exact HE.out 0 (by omega) (by omega))
      go_wp2_with fail
      go_end0
      exact ⟨rfl, by rw [← HKR.out]; exact HOW.out, HGR.out⟩
end Go.Proofs.Ytfppnaknnijobaa
