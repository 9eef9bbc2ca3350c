/-
  What FormatInt of the program and of the model return: the decimal text of the number.
-/
import Derived.Test.YtghpbdgghliieabDoorBase
import Derived.Test.YtghpbdgghliieabDoorFig
import Derived.Test.YtghpbdgghliieabDoorFmtP
import Derived.Test.YtghpbdgghliieabDoorShelf
import Derived.Lib.LaidTab
import Derived.LoopTactic
import Derived.Outline
namespace Go.Proofs.YtghpbdgghliieabDoor
open Go.RowKit
set_option linter.unusedVariables false
set_option linter.unusedSimpArgs false

/-- The library's table of powers of ten, as the program's start lays it. -/
def Tab (w : World) : Prop := Lib.TabIs Tryd.prog w "internal/strconv.uint64pow10" .u64 Lib.pow10Tab

def ItoaPost (n : Int) (w : World) (e : Ending) (w' : World) : Prop :=
  e = .returned (.string ⟨(Lib.itoa n).toArray⟩) ∧ Below w.heap.size w w'

theorem below_grow (w : World) (k : Nat) (os : Array Obj) : Below w.heap.size w (Sort.grow (w.drewN k) os) :=
  ⟨rfl, rfl, rfl, by simp [Sort.grow], fun i hi => by
    show (w.heap ++ os)[i]? = _
    rw [Array.getElem?_append_left hi]⟩

theorem implFormat (n : Int) (w : World) (hn : InI64 n) (ht : Tab w) :
    Calls Tryd.prog 18 #[.int .i64 n] w (ItoaPost n w) := by
  have hb : -9223372036854775808 ≤ n ∧ n ≤ 9223372036854775807 := by
    have := hn; unfold InI64 at this; simp [Lit.wf, IntKind.min, IntKind.max, IntKind.signed, IntKind.bits] at this; omega
  have HI := Any.strconv_Itoa Tryd.laysM171 n hb.1 hb.2 w ht
  have HI := Lib.hid HI
  clear hb
  go_enter Tryd.func18, Tryd.ntmps18
  go_wp2_with fail
  refine HI.out.mono ?_
  rintro e w' ⟨rfl, k, os, rfl⟩
  have HB := Lib.hid (below_grow w k os)
  generalize Sort.grow (w.drewN k) os = w1 at *
  go_wp2_with fail
  go_ret
  exact ⟨rfl, HB.out⟩

/-- 'string([]byte{c})' of a byte that has just been laid into a new block. -/
theorem run_convert_one {P : Program} (src dst e : TypeId) (hs : P.underlying src = some (.slice e)) (he : P.underlying e = some (.int .u8)) (hd : P.underlying dst = some .string) (c : UInt8) (w : World) :
    (convert src dst (.slice (some ⟨w.heap.size, 0, none⟩) 1 1)).run P (w.alloc (.cells #[.int .u8 (c.toNat : Int)] e)) = .ok (.string ⟨#[c]⟩) (w.alloc (.cells #[.int .u8 (c.toNat : Int)] e)) := by
  have h := run_convert_bytes_back (P := P) (w.alloc (.cells #[.int .u8 (c.toNat : Int)] e)) src dst e ⟨w.heap.size, 0, none⟩ 1 [c] hs he hd (fun j hj => by
    have : j = 0 := by simp at hj; omega
    subst this
    exact cell_one_new _ _ _ 0 _ rfl)
  exact h

theorem cons_str (c : UInt8) (l : List UInt8) : (⟨#[c]⟩ : ByteArray) ++ ⟨l.toArray⟩ = ⟨(c :: l).toArray⟩ := by
  apply ByteArray.ext
  simp [ByteArray.data_append]

theorem specFormat_pos (m0 : Nat) (w : World) (h0 : 0 < m0) (h1 : (m0 : Int) ≤ 9223372036854775807) :
    Calls Tryd.prog 16 #[.int .i64 m0] w (ItoaPost m0 w) := by
  have hcv := run_convert_one (P := Tryd.prog) 55 9 5 Tryd.underlying55 Tryd.underlying5 Tryd.underlying9
  have HCV := Lib.hid hcv; clear hcv
  have hlen : (digs m0).length ≤ 21 := by
    rw [← itoa_pos m0 (by omega)]; exact Lib.itoa_length_le _ (by omega) (by omega)
  have HLEN := Lib.hid hlen; clear hlen
  have hc0 : ((m0 : Int) == 0) = false := by rw [beq_eq_false_iff_ne]; omega
  have hc1 : decide ((m0 : Int) < 0) = false := by rw [decide_eq_false_iff_not]; omega
  go_enter Tryd.func16, Tryd.ntmps16
  go_wp2_with fail
  go_loopw [0, 4, 5] (fun v t d wr => ∃ (m : Nat) (l : List UInt8), m ≤ m0 ∧ v = .int .i64 m ∧ t = .string ⟨l.toArray⟩ ∧ digs m0 = digs m ++ l ∧ Below w.heap.size w wr) (fun v _ _ _ => (intOf v).toNat)
  case atStart => exact ⟨m0, [], Nat.le_refl _, rfl, rfl, by simp, Below.refl _ _⟩
  case round =>
    obtain ⟨m, l, hm, rfl, rfl, hd, hb⟩ := hrel
    have hl : l.length ≤ 21 := by
      have := HLEN.out
      rw [hd, List.length_append] at this
      omega
    have HD := Lib.hid hd; clear hd
    have HB := Lib.hid hb; clear hb
    have hbs := HB.out.size
    by_cases hz : 0 < m
    · go_wp2_with fail
      refine (specFigure _ _ (by omega) (by omega)).mono ?_
      rintro e w' ⟨rfl, rfl⟩
      have ht : ((m : Int) % 10).toNat = m % 10 := by omega
      rw [ht]
      have hcv1 := HCV.out (digitB (m % 10)) wr
      clear ht
      go_wp2_with fail
      refine ⟨⟨m / 10, digitB (m % 10) :: l, by omega, by go_num, ?_, ?_, HB.out.alloc hbs _⟩, by simp [intOf]; omega⟩
      · rw [cons_str]
      · rw [HD.out, digs_step m (by omega)]
        simp
    · have h00 : m = 0 := by omega
      subst h00
      go_wp2_with fail
      go_ret
      refine ⟨?_, HB.out⟩
      rw [itoa_pos m0 (by omega), HD.out]
      rfl

theorem specFormat_neg (m0 : Nat) (w : World) (h0 : 0 < m0) (h1 : (m0 : Int) ≤ 9223372036854775808) :
    Calls Tryd.prog 16 #[.int .i64 (-(m0 : Int))] w (ItoaPost (-(m0 : Int)) w) := by
  have hcv := run_convert_one (P := Tryd.prog) 55 9 5 Tryd.underlying55 Tryd.underlying5 Tryd.underlying9
  have HCV := Lib.hid hcv; clear hcv
  have hlen : (digs m0).length ≤ 21 := by
    have := Lib.itoa_length_le (-(m0 : Int)) (by omega) (by omega)
    rw [itoa_minus m0 (by omega), List.length_cons] at this
    omega
  have HLEN := Lib.hid hlen; clear hlen
  have hc0 : (-(m0 : Int) == 0) = false := by rw [beq_eq_false_iff_ne]; omega
  have hc1 : decide (-(m0 : Int) < 0) = true := by rw [decide_eq_true_iff]; omega
  go_enter Tryd.func16, Tryd.ntmps16
  go_wp2_with fail
  go_loopw [0, 4, 5] (fun v t d wr => ∃ (m : Nat) (l : List UInt8), m ≤ m0 ∧ v = .int .i64 (-(m : Int)) ∧ t = .string ⟨l.toArray⟩ ∧ digs m0 = digs m ++ l ∧ Below w.heap.size w wr) (fun v _ _ _ => (-(intOf v)).toNat)
  case atStart => exact ⟨m0, [], Nat.le_refl _, rfl, rfl, by simp, Below.refl _ _⟩
  case round =>
    obtain ⟨m, l, hm, rfl, rfl, hd, hb⟩ := hrel
    have hl : l.length ≤ 21 := by
      have := HLEN.out
      rw [hd, List.length_append] at this
      omega
    have HD := Lib.hid hd; clear hd
    have HB := Lib.hid hb; clear hb
    have hbs := HB.out.size
    by_cases hz : 0 < m
    · have q1 : (-(m : Int)).tmod 10 = -((m : Int) % 10) := by rw [Int.neg_tmod, Int.tmod_eq_emod_of_nonneg (by omega)]
      have q2 : (-(m : Int)).tdiv 10 = -((m : Int) / 10) := by rw [Int.neg_tdiv, Int.tdiv_eq_ediv_of_nonneg (by omega)]
      have hmb : (m : Int) ≤ 9223372036854775808 := by omega
      by_cases hd0 : m % 10 = 0
      · have hd1 : (m : Int) % 10 = 0 := by omega
        have HD0 := Lib.hid hd0; clear hd0
        go_wp2_with fail
        refine (specFigure _ _ (by omega) (by omega)).mono ?_
        rintro e w' ⟨rfl, rfl⟩
        have hcv1 := HCV.out (digitB 0) wr
        go_wp2_with fail
        refine ⟨⟨m / 10, digitB (m % 10) :: l, by omega, by go_num, ?_, ?_, HB.out.alloc hbs _⟩, by simp [intOf]; omega⟩
        · rw [HD0.out, ← cons_str]; rfl
        · rw [HD.out, digs_step m (by omega)]
          simp
      · have hd1 : 0 < (m : Int) % 10 := by omega
        go_wp2_with fail
        refine (specFigure _ _ (by omega) (by omega)).mono ?_
        rintro e w' ⟨rfl, rfl⟩
        have ht : ((m : Int) % 10).toNat = m % 10 := by omega
        rw [ht]
        have hcv1 := HCV.out (digitB (m % 10)) wr
        clear ht
        go_wp2_with fail
        refine ⟨⟨m / 10, digitB (m % 10) :: l, by omega, by go_num, ?_, ?_, HB.out.alloc hbs _⟩, by simp [intOf]; omega⟩
        · rw [cons_str]
        · rw [HD.out, digs_step m (by omega)]
          simp
    · have h00 : m = 0 := by omega
      subst h00
      go_wp2_with fail
      go_ret
      refine ⟨?_, HB.out⟩
      rw [itoa_minus m0 (by omega), HD.out, ← cons_str]
      rfl

theorem specFormat_zero (w : World) :
    Calls Tryd.prog 16 #[.int .i64 0] w (ItoaPost 0 w) := by
  have h0 : Lib.itoa 0 = [48] := by have := Lib.itoa_nonneg 0; rw [show ((0 : Nat) : Int) = 0 from rfl] at this; rw [this, decDigits_small 0 (by omega)]; rfl
  have H0 := Lib.hid h0; clear h0
  go_enter Tryd.func16, Tryd.ntmps16
  go_wp2_with fail
  go_ret
  exact ⟨by rw [H0.out]; rfl, Below.refl _ _⟩

theorem specFormat (n : Int) (w : World) (hn : InI64 n) :
    Calls Tryd.prog 16 #[.int .i64 n] w (ItoaPost n w) := by
  have hb : -9223372036854775808 ≤ n ∧ n ≤ 9223372036854775807 := by
    have := hn; unfold InI64 at this; simp [Lit.wf, IntKind.min, IntKind.max, IntKind.signed, IntKind.bits] at this; omega
  by_cases h : n = 0
  · subst h; exact specFormat_zero w
  · by_cases h1 : 0 < n
    · obtain ⟨m, rfl⟩ := Int.eq_ofNat_of_zero_le (Int.le_of_lt h1)
      exact specFormat_pos m w (by omega) hb.2
    · obtain ⟨m, hm⟩ := Int.eq_ofNat_of_zero_le (show 0 ≤ -n by omega)
      have e : n = -(m : Int) := by omega
      subst e
      exact specFormat_neg m w (by omega) (by omega)
end Go.Proofs.YtghpbdgghliieabDoor
