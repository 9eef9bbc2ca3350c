/-
  Instalments, of the program and of the model.
-/
import Derived.Test.YtfppnaknnijobacRept
namespace Go.Proofs.Ytfppnaknnijobac
open Go.RowKit
set_option linter.unusedVariables false
set_option linter.unusedSimpArgs false

/-- The first m parts: q each, and one more for the first r. -/
def insL (q : Int) (r m : Nat) : List Int := (List.range m).map fun k => if k < r then q + 1 else q
theorem insL_succ (q : Int) (r m : Nat) : insL q r (m + 1) = insL q r m ++ [if m < r then q + 1 else q] := by simp [insL, List.range_succ]
theorem insL_len (q : Int) (r m : Nat) : (insL q r m).length = m := by simp [insL]
def incL (q : Int) (n k : Nat) : List Int := List.replicate k (q + 1) ++ List.replicate (n - k) q
theorem incL_len (q : Int) {n k : Nat} (h : k ≤ n) : (incL q n k).length = n := by simp [incL]; omega
theorem incL_set (q : Int) {n k : Nat} (h : k < n) : (incL q n k).set k (q + 1) = incL q n (k + 1) := by
  unfold incL
  rw [List.set_append_right _ _ (by simp), List.length_replicate, Nat.sub_self, show n - k = (n - (k + 1)) + 1 by omega, List.replicate_succ, List.set_cons_zero, show k + 1 = k + 1 from rfl, ← List.replicate_append_replicate, List.append_assoc]
  rfl
theorem incL_at (q : Int) {n k : Nat} (h : k < n) : atZ (incL q n k) k = q := by
  unfold atZ incL
  rw [List.getD, List.getElem?_append_right (by simp), List.length_replicate, Nat.sub_self, List.getElem?_replicate, if_pos (by omega)]
  rfl
theorem incL_get (q : Int) {n k : Nat} (h : k < n) : (incL q n k)[k]? = some q := by
  unfold incL
  rw [List.getElem?_append_right (by simp), List.length_replicate, Nat.sub_self, List.getElem?_replicate, if_pos (by omega)]
theorem incL_ins (q : Int) {n r : Nat} (h : r ≤ n) : incL q n r = insL q r n := by
  have e : List.replicate r (q + 1) ++ List.replicate (n - r) q = (List.range n).map fun k => if k < r then q + 1 else q := by
    refine List.ext_getElem (by simp; omega) fun j h1 h2 => ?_
    have h3 : j < n := by simpa using h2
    by_cases hj : j < r
    · rw [List.getElem_append_left (by simpa using hj)]
      simp [hj]
    · rw [List.getElem_append_right (by simp; omega)]
      simp [hj]
  exact e
def insV (t n : Int) : List Int := if (inB t 0 100000000 && inB n 1 24) = true then insL (t.tdiv n) (t.tmod n).toNat n.toNat else []
theorem insV_len (t n : Int) : (insV t n).length ≤ 24 := by
  unfold insV
  split
  · rename_i h
    rw [Bool.and_eq_true] at h
    have := (inB_iff _ _ _).1 h.2
    rw [insL_len]
    omega
  · exact Nat.zero_le _
theorem ins_parts {t n : Int} (h1 : 0 ≤ t ∧ t ≤ 100000000) (h2 : 1 ≤ n ∧ n ≤ 24) : ∃ (q : Int) (r m : Nat), t.tdiv n = q ∧ t.tmod n = (r : Int) ∧ n = (m : Int) ∧ (0 ≤ q ∧ q ≤ 100000000) ∧ r < m ∧ insV t n = insL q r m := by
  have e1 : t.tmod n = t % n := Int.tmod_eq_emod_of_nonneg h1.1
  have e2 : t.tdiv n = t / n := Int.tdiv_eq_ediv_of_nonneg h1.1
  have h3 := Int.emod_nonneg t (show n ≠ 0 by omega)
  have h4 := Int.emod_lt_of_pos t (show 0 < n by omega)
  have h5 : 0 ≤ t / n := Int.ediv_nonneg h1.1 (by omega)
  have h6 : t / n ≤ t := Int.ediv_le_self n h1.1
  refine ⟨t.tdiv n, (t.tmod n).toNat, n.toNat, rfl, by omega, by omega, by omega, by omega, ?_⟩
  unfold insV
  rw [(inB_iff _ _ _).2 h1, (inB_iff _ _ _).2 h2]
  rfl
theorem insV_no {t n : Int} (h : ¬ (0 ≤ t ∧ t ≤ 100000000) ∨ ¬ (1 ≤ n ∧ n ≤ 24)) : insV t n = [] := by
  unfold insV
  rw [if_neg]
  intro hh
  rw [Bool.and_eq_true] at hh
  have a := (inB_iff _ _ _).1 hh.1
  have b := (inB_iff _ _ _).1 hh.2
  omega
theorem Ints.set1 {w : World} {B g c : Nat} {xs : List Int} (h : Ints w B (.slice (some ⟨g, 0, none⟩) xs.length c) xs) (k : Nat) (z : Int) : Ints (w.setCell ⟨g, k, none⟩ (.int .i64 z)) B (.slice (some ⟨g, 0, none⟩) xs.length c) (xs.set k z) := by
  have h1 := (World.ownsRow.stored h k (.int .i64 z)).1
  rw [← List.map_set (f := fun x => Value.int .i64 x)] at h1
  unfold Ints
  rw [List.length_set]
  exact h1

theorem incL_step {w : World} {B g c n k : Nat} {q : Int} (h : Ints w B (.slice (some ⟨g, 0, none⟩) n c) (incL q n k)) (hk : k < n) :
    w.cell? ⟨g, k, none⟩ = some (.int .i64 q) ∧ w.frozen? ⟨g, k, none⟩ = false ∧ Ints (w.setCell ⟨g, k, none⟩ (.int .i64 (q + 1))) B (.slice (some ⟨g, 0, none⟩) n c) (incL q n (k + 1)) := by
  have hl := incL_len q (Nat.le_of_lt hk)
  have h1 : Ints w B (.slice (some ⟨g, 0, none⟩) (incL q n k).length c) (incL q n k) := by rw [hl]; exact h
  refine ⟨?_, World.ownsRow.frozenAt h1 k, ?_⟩
  · rw [World.ownsRow.cellAt h1 k (by rw [hl]; omega), List.getElem?_map, incL_get q hk]
    rfl
  · have h2 := h1.set1 k (q + 1)
    rw [hl, incL_set q hk] at h2
    exact h2

set_option maxRecDepth 100000 in
set_option maxHeartbeats 1000000 in
theorem implInst (t n : Int) (w : World) : Calls Try.prog 8 #[.int .i64 t, .int .i64 n] w (IntsNew (insV t n) w) := by
  by_cases a1 : t < 0
  · have HR := Lib.hid (insV_no (t := t) (n := n) (.inl (by omega)))
    generalize insV t n = R at *
    go_enter Try.func8, Try.ntmps8
    go_wp2_with fail
    go_ret
    exact ⟨_, rfl, by rw [HR.out]; exact Ints.nil _ _, Below.refl _ _⟩
  by_cases a2 : 100000000 < t
  · have HR := Lib.hid (insV_no (t := t) (n := n) (.inl (by omega)))
    generalize insV t n = R at *
    go_enter Try.func8, Try.ntmps8
    go_wp2_with fail
    go_ret
    exact ⟨_, rfl, by rw [HR.out]; exact Ints.nil _ _, Below.refl _ _⟩
  by_cases a3 : n < 1
  · have HR := Lib.hid (insV_no (t := t) (n := n) (.inr (by omega)))
    generalize insV t n = R at *
    go_enter Try.func8, Try.ntmps8
    go_wp2_with fail
    go_ret
    exact ⟨_, rfl, by rw [HR.out]; exact Ints.nil _ _, Below.refl _ _⟩
  by_cases a4 : 24 < n
  · have HR := Lib.hid (insV_no (t := t) (n := n) (.inr (by omega)))
    generalize insV t n = R at *
    go_enter Try.func8, Try.ntmps8
    go_wp2_with fail
    go_ret
    exact ⟨_, rfl, by rw [HR.out]; exact Ints.nil _ _, Below.refl _ _⟩
  obtain ⟨q, r, m, eq1, er, en, hq, hr, hv⟩ := ins_parts (t := t) (n := n) (by omega) (by omega)
  have HR := Lib.hid hv; clear hv
  generalize insV t n = R at *
  subst en
  have e1 : IntKind.i64.wrap (t.tdiv (m : Int)) = q := by rw [eq1]; exact IntWalk.i64_in _ (by omega)
  have e2 : IntKind.i64.wrap (t.tmod (m : Int)) = (r : Int) := by rw [er]; exact IntWalk.i64_in _ (by omega)
  have e3 : IntKind.i64.wrap (q + 1) = q + 1 := IntWalk.i64_in _ (by omega)
  have hm0 : ¬ (m : Int) = 0 := by omega
  have HRP := Lib.hid (implRept q m (by omega) w.heap.size (w.alloc (.cells #[.int .i64 q] 3)) ((cell_of_cells (k := 0) (heap_alloc_new w _)).trans rfl) (by simp))
  unfold IntsNew at HRP
  go_enter Try.func8, Try.ntmps8
  go_wp2_with fail
  refine HRP.out.mono ?_
  rintro e w1 ⟨v, rfl, hi, hb⟩
  have H1 := Lib.hid (((Held.none_ w).alloc (.cells #[.int .i64 q] 3)).step hb)
  obtain ⟨a9, c9, e9, -, hc9⟩ := hi.form
  obtain ⟨g9, e8, -⟩ := hc9 0 (by rw [List.length_replicate]; omega)
  subst e8
  rw [List.length_replicate] at e9
  subst e9
  have HO := Lib.hid (show Ints w1 (w.heap.size + 1) (.slice (some ⟨g9, 0, none⟩) m c9) (incL q m 0) from by
    have := hi
    simpa [incL] using this)
  clear hi hb hc9
  go_wp2_with fail
  go_loopw [30] (fun i wr => ∃ k : Nat, k ≤ r ∧ i = .int .i64 k ∧ Ints wr (w.heap.size + 1) (.slice (some ⟨g9, 0, none⟩) m c9) (incL q m k) ∧ Held w wr []) (fun i _ => r - (intOf i).toNat)
  case atStart => exact ⟨0, Nat.zero_le _, rfl, HO.out, H1.out⟩
  case round =>
    clear HO H1
    obtain ⟨k, hk, rfl, hown, hh⟩ := hrel
    have H1 := Lib.hid hh; clear hh
    by_cases hlt : k < r
    · obtain ⟨x0, f0, hst⟩ := incL_step hown (show k < m by omega)
      have hge := (World.ownsRow.lt hown g9 rfl).1
      have HO := Lib.hid hst; clear hst hown
      have q1 : (0 : Int) ≤ k := by omega
      have q2 : (k : Int) < (m : Int) := by omega
      have q3 : (k : Int) < (r : Int) := by omega
      go_wp2_with fail
      exact ⟨⟨k + 1, by omega, by go_num, HO.out, ⟨trivial, trivial, H1.out.below.setCell (p := ⟨_, _, none⟩) (by show w.heap.size ≤ g9; omega) _⟩⟩, by simp [intOf]; omega⟩
    · obtain rfl : k = r := by omega
      have HO := Lib.hid hown; clear hown
      have HE := Lib.hid (incL_ins q (show k ≤ m by omega))
      go_wp2_with fail
      go_ret
      exact ⟨_, rfl, by rw [HR.out, ← HE.out]; exact HO.out.mono (by omega), H1.out.below⟩

set_option maxRecDepth 100000 in
set_option maxHeartbeats 1000000 in
theorem specInst (t n : Int) (w : World) : Calls Try.prog 7 #[.int .i64 t, .int .i64 n] w (IntsNew (insV t n) w) := by
  have H0 := Lib.hid ((Held.none_ w).alloc (.cells #[] 3))
  have HI0 := Lib.hid (Ints.made w w.heap.size w.heap.size rfl (Nat.le_refl _))
  have HA := Lib.hid (fun w => specIn t 0 100000000 w)
  have HB := Lib.hid (fun w => specIn n 1 24 w)
  cases ha : inB t 0 100000000
  · rw [ha] at HA
    have HR := Lib.hid (insV_no (t := t) (n := n) (.inl fun h => by rw [(inB_iff _ _ _).2 h] at ha; cases ha))
    generalize insV t n = R at *
    go_enter Try.func7, Try.ntmps7
    go_wp2_with fail
    refine (HA.out _).mono ?_
    rintro e w1 ⟨rfl, rfl⟩
    go_wp2_with fail
    go_ret
    exact ⟨_, rfl, by rw [HR.out]; exact HI0.out, H0.out.below⟩
  cases hb : inB n 1 24
  · rw [ha] at HA
    rw [hb] at HB
    have HR := Lib.hid (insV_no (t := t) (n := n) (.inr fun h => by rw [(inB_iff _ _ _).2 h] at hb; cases hb))
    generalize insV t n = R at *
    go_enter Try.func7, Try.ntmps7
    go_wp2_with fail
    refine (HA.out _).mono ?_
    rintro e w1 ⟨rfl, rfl⟩
    go_wp2_with fail
    refine (HB.out _).mono ?_
    rintro e w1 ⟨rfl, rfl⟩
    go_wp2_with fail
    go_ret
    exact ⟨_, rfl, by rw [HR.out]; exact HI0.out, H0.out.below⟩
  · rw [ha] at HA
    rw [hb] at HB
    have ht := (inB_iff _ _ _).1 ha
    have hb9 := hb
    obtain ⟨q, r, m, eq1, er, en, hq, hr, hv⟩ := ins_parts ht ((inB_iff _ _ _).1 hb)
    have HR := Lib.hid hv; clear hv ha hb
    generalize insV t n = R at *
    have h24 := ((inB_iff _ _ _).1 hb9).2
    subst en
    have e1 : IntKind.i64.wrap (t.tdiv (m : Int)) = q := by rw [eq1]; exact IntWalk.i64_in _ (by omega)
    have e2 : IntKind.i64.wrap (t.tmod (m : Int)) = (r : Int) := by rw [er]; exact IntWalk.i64_in _ (by omega)
    have e3 : IntKind.i64.wrap (q + 1) = q + 1 := IntWalk.i64_in _ (by omega)
    have hm0 : ¬ (m : Int) = 0 := by omega
    have HU := Lib.hid (insL_succ q r)
    have HLN := Lib.hid (insL_len q r)
    have HZ := Lib.hid (show insL q r 0 = [] from rfl)
    generalize insL q r = X at *
    obtain ⟨i0, hi', hz0, hz1, hz2⟩ := info_parts infoInt
    have HF := Lib.hid (And.intro hi' (And.intro hz0 (And.intro hz1 hz2))); clear hi' hz0 hz1 hz2
    go_enter Try.func7, Try.ntmps7
    go_wp2_with fail
    refine (HA.out _).mono ?_
    rintro e w1 ⟨rfl, rfl⟩
    go_wp2_with fail
    refine (HB.out _).mono ?_
    rintro e w1 ⟨rfl, rfl⟩
    go_wp2_with fail
    go_loopw [5, 6, 7] (fun v i y wr => ∃ k : Nat, k ≤ m ∧ i = .int .i64 k ∧ Ints wr w.heap.size v (X k) ∧ Held w wr []) (fun _ i _ _ => m - (intOf i).toNat)
    case atStart => exact ⟨0, Nat.zero_le _, rfl, by rw [HZ.out]; exact HI0.out, H0.out⟩
    case round =>
      obtain ⟨k, hk, rfl, hown, hh⟩ := hrel
      have HO2 := Lib.hid hown; clear hown
      have H2 := Lib.hid hh; clear hh
      by_cases hlt : k < m
      · have HUM := Lib.hid (HU.out k)
        have hln := HLN.out k
        have hln2 : (X k).length ≤ 24 := by omega
        clear hln
        have q2 : (k : Int) < (m : Int) := by omega
        by_cases hkr : k < r
        · have q3 : (k : Int) < (r : Int) := by omega
          replace HUM := Lib.hid (show X (k + 1) = X k ++ [q + 1] from by rw [HUM.out, if_pos hkr])
          have hsz1 := H2.out.below.size
          obtain ⟨hi', hz0, hz1', hz2'⟩ := HF.out
          go_wp2_with (at_builtin; refine wpList_append_own _ rfl _ _ 22 rfl w.heap.size 3 i0 (.int .i64 0) 1 8 Try.underlying22 hi' hz0 hz1' hz2' rfl (by decide) _ _ _ rfl (World.ownsRow.alloc HO2.out _) ⟨wr.heap.size, 0, none⟩ 1 1 [.int .i64 (q + 1)] rfl rfl ?c1 ?c2 ?c3 ?c4 ?c5 ?_)
          case c1 => exact cell_one_new _ _ _
          case c2 => simp [Value.oneCell']
          case c3 => unfold maxLen; omega
          case c4 => omega
          case c5 => simp <;> omega
          intro v' w5 hown hgrow _
          have H5 := Lib.hid (H2.out.stepB (B := w.heap.size) trivial (grown_below HO2.out hsz1 hgrow) (Nat.le_refl _))
          have HO5 := Lib.hid (Ints.more hown); clear hown hgrow
          go_wp2_with fail
          exact ⟨⟨k + 1, by omega, by go_num, by rw [HUM.out]; exact HO5.out, H5.out⟩, by simp [intOf]; omega⟩
        · have q3 : ¬ (k : Int) < (r : Int) := by omega
          replace HUM := Lib.hid (show X (k + 1) = X k ++ [q] from by rw [HUM.out, if_neg hkr])
          have hsz1 := H2.out.below.size
          obtain ⟨hi', hz0, hz1', hz2'⟩ := HF.out
          go_wp2_with (at_builtin; refine wpList_append_own _ rfl _ _ 22 rfl w.heap.size 3 i0 (.int .i64 0) 1 8 Try.underlying22 hi' hz0 hz1' hz2' rfl (by decide) _ _ _ rfl (World.ownsRow.alloc HO2.out _) ⟨wr.heap.size, 0, none⟩ 1 1 [.int .i64 q] rfl rfl ?d1 ?d2 ?d3 ?d4 ?d5 ?_)
          try (case d1 => exact cell_one_new _ _ _)
          case d2 => simp [Value.oneCell']
          case d3 => unfold maxLen; omega
          case d4 => omega
          case d5 => first | omega | (simp <;> omega)
          intro v' w5 hown hgrow _
          have H5 := Lib.hid (H2.out.stepB (B := w.heap.size) trivial (grown_below HO2.out hsz1 hgrow) (Nat.le_refl _))
          have HO5 := Lib.hid (Ints.more hown); clear hown hgrow
          go_wp2_with fail
          exact ⟨⟨k + 1, by omega, by go_num, by rw [HUM.out]; exact HO5.out, H5.out⟩, by simp [intOf]; omega⟩
      · obtain rfl : k = m := by omega
        go_wp2_with fail
        go_ret
        exact ⟨_, rfl, by rw [HR.out]; exact HO2.out, H2.out.below⟩
end Go.Proofs.Ytfppnaknnijobac
