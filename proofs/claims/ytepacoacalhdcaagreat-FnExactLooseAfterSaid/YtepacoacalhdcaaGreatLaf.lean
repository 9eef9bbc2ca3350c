/-
  LooseAfter: the bits of a set as a list.
-/
import Derived.Test.YtepacoacalhdcaaGreatG27
import Derived.Shelf.Small.Bits
namespace Go.Proofs.YtepacoacalhdcaaGreat
open Go.RowKit Go.Maps
set_option linter.unusedVariables false
set_option linter.unusedSimpArgs false

theorem bitLen_bound : ∀ (k x : Nat), k ≤ 64 → x < 2 ^ k → Lib.bitLen x ≤ k
  | 0, x, _, h => by
    obtain rfl : x = 0 := by simpa using h
    exact Nat.le_of_eq rfl
  | k + 1, x, hk, h => by
    by_cases h0 : x = 0
    · subst h0
      exact Nat.le_trans (Nat.le_of_eq (show Lib.bitLen 0 = 0 from rfl)) (Nat.zero_le _)
    · rw [Lib.bitLen_half x h0 (Nat.lt_of_lt_of_le h (Nat.pow_le_pow_right (by omega) hk))]
      have := bitLen_bound k (x / 2) (by omega) (by rw [Nat.pow_succ] at h; omega)
      omega

theorem bitLen_lt : ∀ (k x : Nat), k ≤ 64 → x < 2 ^ k → x < 2 ^ Lib.bitLen x
  | 0, x, _, h => by
    obtain rfl : x = 0 := by simpa using h
    exact Nat.two_pow_pos _
  | k + 1, x, hk, h => by
    by_cases h0 : x = 0
    · subst h0
      exact Nat.two_pow_pos _
    · rw [Lib.bitLen_half x h0 (Nat.lt_of_lt_of_le h (Nat.pow_le_pow_right (by omega) hk))]
      have := bitLen_lt k (x / 2) (by omega) (by rw [Nat.pow_succ] at h; omega)
      rw [Nat.add_comm, Nat.pow_succ]
      omega

/-- The bits of s. -/
def bitL (s : Nat) : List Int := fltN (fun i => s.testBit i) (Lib.bitLen s)

theorem u64_nat {s : Nat} (h : s < 4611686018427387904) : IntKind.u64.wrap (s : Int) = (s : Int) := by
  show (s : Int) % 18446744073709551616 = s
  omega

set_option maxRecDepth 100000 in
set_option maxHeartbeats 1000000 in
theorem implListB (s : Nat) (w : World) (hs : s < 2 ^ 60) :
    Calls Tryz.prog 63 #[.int .i64 s] w (IntsNew (bitL s) w) := by
  have hs62 : s < 4611686018427387904 := Nat.lt_of_lt_of_le hs (by decide)
  have hB60 := bitLen_bound 60 s (by omega) hs
  have HBL := Lib.hid (fun W => (show Calls Tryz.prog 130 #[.int .u64 (s : Int)] W (fun e w' => e = .returned (.int .i64 ((Lib.bitLen s : Nat) : Int)) ∧ w' = W) from by
    have h := Any.bits_Len Tryz.lays125 (s : Int) W (by omega) (by omega)
    rw [Int.toNat_natCast] at h
    exact h))
  have HHB := Lib.hid (fun (i : Nat) w (h : i ≤ 60) => implHasB s i w hs62 h)
  unfold BoolIs at HHB
  have HU := Lib.hid (fun k => fltN_succ (fun i => s.testBit i) k)
  have HLN := Lib.hid (fltN_len (fun i => s.testBit i))
  have HZ := Lib.hid (show fltN (fun i => s.testBit i) 0 = [] from rfl)
  have HE := Lib.hid (show bitL s = fltN (fun i => s.testBit i) (Lib.bitLen s) from rfl)
  have hu := u64_nat hs62
  generalize bitL s = R at *
  generalize Lib.bitLen s = N at *
  generalize fltN (fun i => s.testBit i) = X at *
  obtain ⟨i0, hi, hz0, hz1, hz2⟩ := info_parts infoInt
  have HI := Lib.hid (And.intro hi (And.intro hz0 (And.intro hz1 hz2))); clear hi hz0 hz1 hz2
  have HO0 := Lib.hid (Ints.made w w.heap.size w.heap.size rfl (Nat.le_refl _))
  go_enter Tryz.func63, Tryz.ntmps63
  go_wp2_with fail
  refine (HBL.out _).mono ?_
  rintro e w1 ⟨rfl, rfl⟩
  go_wp2_with fail
  go_loopw [3, 9] (fun u i wr => ∃ k : Nat, k ≤ N ∧ i = .int .i64 k ∧ Ints wr w.heap.size u (X k) ∧ Below w.heap.size w wr) (fun _ i _ => N - (intOf i).toNat)
  case atStart => exact ⟨0, Nat.zero_le _, rfl, by rw [HZ.out]; exact HO0.out, below_alloc w _⟩
  case round =>
    clear HO0
    obtain ⟨k, hk, rfl, hown, hh⟩ := hrel
    have HO := Lib.hid hown; clear hown
    have H1 := Lib.hid hh; clear hh
    by_cases hlt : k < N
    · have q0 : (0 : Int) ≤ k := by omega
      have q1 : (k : Int) < (N : Int) := by omega
      have HUK := Lib.hid (HU.out k)
      have HHK := Lib.hid (HHB.out k wr (by omega))
      generalize s.testBit k = bk at *
      go_wp2_with fail
      refine HHK.out.mono ?_
      rintro e w2 ⟨rfl, hb⟩
      have H3 := Lib.hid (H1.out.trans (hb.mono H1.out.size))
      have HO3 := Lib.hid (HO.out.step hb)
      clear hb
      cases bk
      · have EP := Lib.hid (show X (k + 1) = X k from by rw [HUK.out]; rfl)
        go_wp2_with fail
        exact ⟨⟨k + 1, by omega, by go_num, by rw [EP.out]; exact HO3.out, H3.out⟩, by simp [intOf]; omega⟩
      · have EP := Lib.hid (show X (k + 1) = X k ++ [(k : Int)] from by rw [HUK.out]; rfl)
        have HZ3 := Lib.hid H3.out.size
        have hsz := H3.out.size
        obtain ⟨a9, c9, rfl, -⟩ := HO3.out.form
        have hll := HLN.out k
        obtain ⟨hi, hz0, hz1, hz2⟩ := HI.out
        go_wp2_with (at_builtin; refine wpList_append_own _ rfl _ _ 27 rfl w.heap.size 3 i0 (.int .i64 0) 1 8 Tryz.underlying27 hi hz0 hz1 hz2 rfl (by decide) _ _ _ rfl (World.ownsRow.alloc HO3.out _) ⟨_, 0, none⟩ 1 1 [.int .i64 k] rfl rfl ?c1 ?c2 ?c3 ?c4 ?c5 ?_)
        try (case c1 => exact cell_one_new _ _ _)
        case c2 => simp [Value.oneCell']
        case c3 => unfold maxLen; omega
        case c4 => omega
        case c5 => first | omega | (simp <;> omega)
        intro v' w9 hown hgrow _
        have HO9 := Lib.hid (Ints.more hown)
        have H9 := Lib.hid (H3.out.trans (grown_below HO3.out HZ3.out hgrow))
        clear hown hgrow hi hz0 hz1 hz2
        go_wp2_with fail
        exact ⟨⟨k + 1, by omega, by go_num, by rw [EP.out]; exact HO9.out, H9.out⟩, by simp [intOf]; omega⟩
    · obtain rfl : k = N := by omega
      go_wp2_with fail
      go_ret
      exact ⟨_, rfl, by rw [HE.out]; exact HO.out, H1.out⟩
end Go.Proofs.YtepacoacalhdcaaGreat
