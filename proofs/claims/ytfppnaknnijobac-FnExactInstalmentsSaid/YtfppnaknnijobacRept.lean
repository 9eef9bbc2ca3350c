/-
  slices.Repeat of one int, up to 24 times.
-/
import Derived.Test.YtfppnaknnijobacNode
import Derived.Test.YtfppnaknnijobacSeq
import Derived.Laws.CopyOwn
import Derived.BigRegion
import Derived.IntWalk
namespace Go.Proofs.Ytfppnaknnijobac
open Go.RowKit
set_option linter.unusedVariables false
set_option linter.unusedSimpArgs false

set_option maxRecDepth 100000 in
theorem mul64_one (n : Int) (h : 1 ≤ n ∧ n ≤ 24) (w : World) : Calls Try.prog 41 #[.int .u64 1, .int .u64 n] w (fun e w' => e = .returned (.tuple #[.int .u64 0, .int .u64 n]) ∧ w' = w) := by
  have hn : n = 1 ∨ n = 2 ∨ n = 3 ∨ n = 4 ∨ n = 5 ∨ n = 6 ∨ n = 7 ∨ n = 8 ∨ n = 9 ∨ n = 10 ∨ n = 11 ∨ n = 12 ∨ n = 13 ∨ n = 14 ∨ n = 15 ∨ n = 16 ∨ n = 17 ∨ n = 18 ∨ n = 19 ∨ n = 20 ∨ n = 21 ∨ n = 22 ∨ n = 23 ∨ n = 24 := by omega
  clear h
  rcases hn with rfl | rfl | rfl | rfl | rfl | rfl | rfl | rfl | rfl | rfl | rfl | rfl | rfl | rfl | rfl | rfl | rfl | rfl | rfl | rfl | rfl | rfl | rfl | rfl
  all_goals
    go_enter Try.func41, Try.ntmps41
    go_wp2_with fail
    go_ret2
    exact ⟨rfl, rfl⟩

set_option maxRecDepth 100000 in
theorem mul_one_ (n : Int) (h : 1 ≤ n ∧ n ≤ 24) (w : World) : Calls Try.prog 33 #[.int .u64 1, .int .u64 n] w (fun e w' => e = .returned (.tuple #[.int .u64 0, .int .u64 n]) ∧ w' = w) := by
  have HM := Lib.hid (mul64_one n h)
  go_enter Try.func33, Try.ntmps33
  go_wp2_with fail
  refine (HM.out _).mono ?_
  rintro e w' ⟨rfl, rfl⟩
  go_wp2_with fail
  go_ret2
  exact ⟨rfl, rfl⟩

/-- k cells hold c, the others up to n hold 0. -/
def rp (c : Int) (n k : Nat) : List Value := List.replicate k (.int .i64 c) ++ List.replicate (n - k) (.int .i64 0)
theorem rp_len (c : Int) {n k : Nat} (h : k ≤ n) : (rp c n k).length = n := by simp [rp]; omega
theorem rp_splice (c : Int) {n k m : Nat} (h : k + m ≤ n) : splice (rp c n k) k (List.replicate m (.int .i64 c)) = rp c n (k + m) := by
  unfold splice rp
  rw [List.length_replicate, List.take_append_of_le_length (by simp), List.take_of_length_le (by simp), List.drop_append, List.drop_of_length_le (by simp), List.length_replicate, List.nil_append, List.drop_replicate, ← List.append_assoc, List.replicate_append_replicate,
    show n - k - (k + m - k) = n - (k + m) by omega]
theorem rp_zero (c : Int) (n : Nat) : rp c n 0 = List.replicate n (.int .i64 0) := by simp [rp]
theorem rp_all (c : Int) (n : Nat) : rp c n n = List.replicate n (.int .i64 c) := by simp [rp]
theorem rp_at (c : Int) {n k j : Nat} (h : j < k) : (rp c n k)[j]? = some (.int .i64 c) := by
  unfold rp
  rw [List.getElem?_append_left (by simpa using h), List.getElem?_replicate, if_pos h]
theorem news_rp {W : World} {g : Nat} {c : Int} {n k : Nat} {T : TypeId} (hg : W.heap[g]? = some (.cells (rp c n k).toArray T (0, 0))) (m : Nat) (hm : m ≤ k) : ∀ j v, (List.replicate m (Value.int .i64 c))[j]? = some v → W.cell? ((⟨g, 0, none⟩ : Addr).add j) = some v := by
  intro j v h
  rw [List.getElem?_replicate] at h
  split at h
  · injection h with h
    subst h
    rename_i hj
    simp only [Go.WideShapes.add_plain, Nat.zero_add]
    rw [cell_of_cells hg]
    have := rp_at c (n := n) (show j < k by omega)
    simpa using this
  · cases h

theorem copy_rp {W : World} {g : Nat} {c : Int} {n k : Nat} (o m dl dc sl sc : Nat) (a : Addr) (hg : W.heap[g]? = some (.cells (rp c n k).toArray 3 (0, 0))) (ho : o = k) (hm : m = Nat.min sl dl) (hf : k + m ≤ n)
    (hs : ∀ j v, (List.replicate m (Value.int .i64 c))[j]? = some v → W.cell? (a.add j) = some v) :
    ∃ W3, (Builtin.copy_ #[22, 22] 3 #[.slice (some ⟨g, o, none⟩) dl dc, .slice (some a) sl sc]).run Try.prog W = .ok (goInt m) W3 ∧ W3.heap[g]? = some (.cells (rp c n (k + m)).toArray 3 (0, 0)) ∧ ∀ (B : Nat) (w0 : World), Below B w0 W → B ≤ g → Below B w0 W3 := by
  subst ho
  obtain ⟨i0, hi0, hz0, hz1, hz2⟩ := info_parts infoInt
  have h := run_copy_row (P := Try.prog) W 22 22 3 3 g o dl dc a sl sc (rp c n o).toArray 3 (List.replicate m (.int .i64 c)) Try.underlying22 (by rw [hi0]; simp [hz1]) hg (by simpa using hm) hs (by simp [rp_len c (show o ≤ n by omega)]; omega) (fun v hv => by rw [List.mem_replicate] at hv; rw [hv.2]; rfl)
  refine ⟨_, ?_, setRow_heap W g _ _ _ _ hg, fun B w0 hb hB => ?_⟩
  · rw [h]
    simp only [List.length_replicate]
    congr 2
    rw [← rp_splice c hf]
    unfold splice
    simp [List.append_assoc]
  · exact below_setRow hb hB _

set_option maxRecDepth 100000 in
set_option maxHeartbeats 1000000 in
theorem implRept (c : Int) (n : Nat) (h : 1 ≤ n ∧ n ≤ 24) (b : Nat) (w : World) (hc : w.cell? ⟨b, 0, none⟩ = some (.int .i64 c)) (hb : b < w.heap.size) :
    Calls Try.prog 23 #[.slice (some ⟨b, 0, none⟩) 1 1, .int .i64 n] w (IntsNew (List.replicate n c) w) := by
  obtain ⟨i0, hi0, hz0, hz1, hz2⟩ := info_parts infoInt
  obtain ⟨w2, hmk, hown, hgr⟩ := run_make_full (P := Try.prog) w w.heap.size 22 3 i0 _ 1 Try.underlying22 hi0 hz0 hz1 .i64 .i64 n (by rw [hz2]; omega) (by unfold maxLen; omega) (Nat.le_refl _)
  have hb0 : Below w.heap.size w w2 := ⟨hgr.os, hgr.tape, hgr.output, hgr.size, fun k hk => hgr.block k hk (by simp)⟩
  have hg : w2.heap[w.heap.size]? = some (.cells (rp c n 0).toArray 3 (0, 0)) := by
    rcases hown.2 with ⟨h1, _⟩ | ⟨g, cap, cur, h1, _, h3, _, _, h4, h5⟩
    · cases h1
    · injection h1 with h1 _ h6
      injection h1 with h1
      injection h1 with h1
      subst h1; subst h6
      rw [h3]
      congr 2
      apply Array.ext'
      rw [List.take_of_length_le (by simp [h4])] at h5
      rw [h5, show (Value.int .i64 0).cells = #[.int .i64 0] from rfl, toList_madeCells_one, rp_zero]
      simp
  have hc2 := (hb0.cell (p := ⟨b, 0, none⟩) hb).trans hc
  obtain ⟨w3, hcp, hg3, hb3⟩ := copy_rp 0 1 n n 1 1 ⟨b, 0, none⟩ hg rfl (by simp [Nat.min_def]; omega) (by omega) (fun j v hj => by
    match j, hj with
    | 0, hj => simp at hj; subst hj; simpa [Addr.add] using hc2
    | j + 1, hj => simp at hj)
  have HB3 := Lib.hid (hb3 w.heap.size w hb0 (Nat.le_refl _))
  have HG3 := Lib.hid hg3
  have HMU := Lib.hid (mul_one_ n (by omega))
  replace hcp := hcp.trans (show _ = Result.ok (Value.int .i64 1) w3 from rfl)
  clear hgr hown hg hb0 hc hc2 hi0 hz0 hz1 hz2 hb3 hg3
  go_enter Try.func23, Try.ntmps23
  go_wp2_with fail
  refine (HMU.out _).mono ?_
  rintro e w' ⟨rfl, rfl⟩
  go_wp2_with fail
  clear hcp hmk
  go_loopw [8] (fun i wr => ∃ k : Nat, (1 ≤ k ∧ k ≤ n) ∧ i = .int .i64 k ∧ wr.heap[w'.heap.size]? = some (.cells (rp c n k).toArray 3 (0, 0)) ∧ Below w'.heap.size w' wr) (fun i _ => n - (intOf i).toNat)
  case atStart => exact ⟨1, ⟨Nat.le_refl _, h.1⟩, rfl, HG3.out, HB3.out⟩
  case round =>
    obtain ⟨k, ⟨hk1, hk2⟩, rfl, hg, hb⟩ := hrel
    have HG := Lib.hid hg; clear hg
    have HB := Lib.hid hb; clear hb
    by_cases hlt : k < n
    · obtain ⟨m, hm⟩ : ∃ m, Nat.min k (n - k) = m := ⟨_, rfl⟩
      have hm2 : 1 ≤ m ∧ k + m ≤ n ∧ m ≤ k := by
        rw [← hm]
        show 1 ≤ min k (n - k) ∧ k + min k (n - k) ≤ n ∧ min k (n - k) ≤ k
        omega
      obtain ⟨w4, hcp, hg4, hb4⟩ := copy_rp (W := wr.drew) k m (n - k) (n - k) k n ⟨w'.heap.size, 0, none⟩ HG.out rfl hm.symm hm2.2.1 (news_rp (W := wr.drew) HG.out m hm2.2.2)
      have HG4 := Lib.hid hg4; clear hg4
      have HB4 := Lib.hid (hb4 w'.heap.size w' HB.out.drew (Nat.le_refl _)); clear hb4
      replace hcp := hcp.trans (show _ = Result.ok (Value.int .i64 (m : Int)) w4 from rfl)
      have e1 : IntKind.i64.wrap ((k : Int) + (m : Int)) = (k : Int) + (m : Int) := IntWalk.i64_in _ (by omega)
      have q1 : (0 : Int) ≤ k := by omega
      have q2 : (k : Int) < (n : Int) := by omega
      have HM := Lib.hid hm; clear hm
      go_wp2_with fail
      go_big_region
      all_goals go_wp2_with fail
      exact ⟨⟨k + m, by omega, by go_num, HG4.out, HB4.out⟩, by simp [intOf]; omega⟩
    · obtain rfl : k = n := by omega
      go_wp2_with fail
      go_ret
      refine ⟨_, rfl, ⟨by simp, .inr ⟨w'.heap.size, k, (rp c k k).toArray, by simp, Nat.le_refl _, HG.out, by simp, by unfold maxLen; omega, by simp [rp_len c (Nat.le_refl k)], by rw [rp_all]; simp⟩⟩, HB.out⟩
end Go.Proofs.Ytfppnaknnijobac
