/-
  The least number of crates by the sum of the weights, of the model and of the program.
-/
import Derived.Test.YtghpbdgghliieabTri
namespace Go.Proofs.Ytghpbdgghliieab
open Go.RowKit
set_option linter.unusedVariables false
set_option linter.unusedSimpArgs false

def sumL (xs : List Int) : Nat → Int
  | 0 => 0
  | n + 1 => sumL xs n + atZ xs n
theorem inR_at {xs : List Int} {a b : Int} (h : inR xs a b = true) {k : Nat} (hk : k < xs.length) : a ≤ atZ xs k ∧ atZ xs k ≤ b := by
  rw [← atZ_get hk]
  have := (List.all_eq_true.1 h) _ (List.getElem_mem hk)
  exact (inB_iff _ _ _).1 this
theorem sumL_bd {xs : List Int} {b : Int} (h : inR xs 0 b = true) : ∀ n, n ≤ xs.length → 0 ≤ sumL xs n ∧ sumL xs n ≤ b * n
  | 0, _ => by simp [sumL]
  | n + 1, hn => by
    have h1 := sumL_bd h n (by omega)
    have h2 := inR_at h (k := n) (by omega)
    unfold sumL
    have : b * ((n + 1 : Nat) : Int) = b * n + b := by rw [Int.natCast_add, Int.mul_add]; simp
    omega
def boundI (xs : List Int) (l : Int) : Int := if inR xs 0 10000 && inB l 1 100000 then (sumL xs xs.length + l - 1) / l else 0

set_option maxRecDepth 100000 in
theorem specOk31 (xs : List Int) (v : Value) (w : World) (hv : Seq w v xs) : Calls Try.prog 48 #[v] w (BoolIs (inR xs 0 10000) w) := by
  have hlen := hv.len
  obtain ⟨A, c, rfl, _, _, hcs⟩ := hv.form
  clear hv
  have HR := Lib.hid (show inR xs 0 10000 = xs.all fun x => inB x 0 10000 from rfl)
  have HIN := Lib.hid (fun x w => specIn x 0 10000 w)
  generalize inR xs 0 10000 = r at *
  go_enter Try.func48, Try.ntmps48
  go_wp2_with fail
  go_loopw [3] (fun i wr => ∃ m : Nat, m ≤ xs.length ∧ i = .int .i64 m ∧ ((xs.take m).all fun x => inB x 0 10000) = true ∧ wr = w) (fun i _ => xs.length - (intOf i).toNat)
  case atStart => exact ⟨0, Nat.zero_le _, rfl, by simp, rfl⟩
  case round =>
    obtain ⟨m, hm, rfl, ha, rfl⟩ := hrel
    have HA := Lib.hid ha; clear ha
    by_cases hlt : m < xs.length
    · obtain ⟨bb, o, rfl, hbl, hc⟩ := hcs m hlt
      have HT := Lib.hid (show xs.take (m + 1) = xs.take m ++ [atZ xs m] from by rw [List.take_succ_eq_append_getElem hlt, atZ_get hlt])
      have HM := Lib.hid (show atZ xs m ∈ xs from by rw [← atZ_get hlt]; exact List.getElem_mem hlt)
      have hz1 : (m : Int) < (xs.length : Int) := by omega
      have hz2 : (0 : Int) ≤ m := by omega
      have HX := Lib.hid (HIN.out (atZ xs m))
      have HBZ := Lib.hid (show inB (atZ xs m) 0 10000 = inB (atZ xs m) 0 10000 from rfl)
      generalize hz : atZ xs m = z at *
      clear hz
      by_cases hb : inB z 0 10000 = true
      · have HBT := Lib.hid hb
        rw [hb] at HX
        clear hb
        go_wp2_with fail
        refine (HX.out _).mono ?_
        rintro e w' ⟨rfl, rfl⟩
        go_wp2_with fail
        exact ⟨⟨m + 1, by omega, by go_num, by rw [HT.out, List.all_append, HA.out]; simp [HBT.out], trivial⟩, by simp [intOf]; omega⟩
      · have HBT := Lib.hid hb
        rw [Bool.not_eq_true] at hb
        rw [hb] at HX
        clear hb
        go_wp2_with fail
        refine (HX.out _).mono ?_
        rintro e w' ⟨rfl, rfl⟩
        go_wp2_with fail
        go_ret
        exact ⟨ret_bool (by rw [HR.out]; exact (List.all_eq_false.2 ⟨z, HM.out, HBT.out⟩).symm), Below.refl _ _⟩
    · obtain rfl : m = xs.length := by omega
      go_wp2_with fail
      go_ret
      exact ⟨ret_bool (by rw [HR.out, ← HA.out, List.take_length]), Below.refl _ _⟩

theorem implWeights (xs : List Int) (v : Value) (w : World) (hv : Seq w v xs) : Calls Try.prog 49 #[v] w (BoolIs (inR xs 0 10000) w) := by
  have HA := Lib.hid (fun w h => implInR xs v 0 10000 w h)
  have HV := Lib.hid hv
  have H0 := Lib.hid (Held.none_ w)
  generalize inR xs 0 10000 = r at *
  clear hv
  go_enter Try.func49, Try.ntmps49
  go_wp2_with fail
  refine (HA.out _ HV.out).mono ?_
  rintro e wH1 ⟨rfl, hb⟩
  have H1 := Lib.hid ((H0.out).step hb); clear hb
  go_wp2_with fail
  go_ret
  exact ⟨rfl, H1.out.below⟩

set_option maxRecDepth 100000 in
theorem specBound (xs : List Int) (v : Value) (l : Int) (w : World) (hv : Seq w v xs) (hl : xs.length ≤ 1048576) :
    Calls Try.prog 28 #[v, .int .i64 l] w (IntIs (boundI xs l) w) := by
  have HA := Lib.hid (fun w h => specOk31 xs v w h)
  have HB := Lib.hid (specInB l 1 100000)
  have hlen := hl
  have hvl := hv.len
  have HV := Lib.hid hv
  have HIB := Lib.hid (inB_iff l 1 100000)
  have HSB := Lib.hid (fun h : inR xs 0 10000 = true => sumL_bd h)
  have HST := Lib.hid (fun n => (show sumL xs (n + 1) = sumL xs n + atZ xs n from rfl))
  have HZ := Lib.hid (show sumL xs 0 = 0 from rfl)
  have HR := Lib.hid (show boundI xs l = if inR xs 0 10000 && inB l 1 100000 then (sumL xs xs.length + l - 1) / l else 0 from rfl)
  obtain ⟨A, c, rfl, hc1, hc2, hcs⟩ := hv.form
  have HC := Lib.hid hcs; clear hcs hv
  generalize sumL xs = S at *
  generalize boundI xs l = r at *
  generalize inR xs 0 10000 = b1 at *
  generalize inB l 1 100000 = b2 at *
  have H0 := Lib.hid (Held.none_ w)
  by_cases hb : (b1 && b2) = true
  · obtain ⟨rfl, rfl⟩ : b1 = true ∧ b2 = true := by simpa using hb
    clear hb
    obtain ⟨l1, l2⟩ := HIB.out.1 rfl
    have HSB2 := Lib.hid (HSB.out rfl); clear HSB
    have HR2 := Lib.hid (show r = (S xs.length + l - 1) / l from by rw [HR.out]; rfl)
    clear HR
    go_enter Try.func28, Try.ntmps28
    go_wp2_with fail
    refine (HA.out _ HV.out).mono ?_
    rintro e wH1 ⟨rfl, hb⟩
    have H1 := Lib.hid ((H0.out).step hb); clear hb
    go_wp2_with fail
    refine (HB.out _).mono ?_
    rintro e wH2 ⟨rfl, hb⟩
    have H2 := Lib.hid ((H1.out).step hb); clear hb
    go_wp2_with fail
    go_loopw [5, 6] (fun v i wr => ∃ m : Nat, m ≤ xs.length ∧ i = .int .i64 m ∧ v = .int .i64 (S m) ∧ Below w.heap.size w wr) (fun _ i _ => xs.length - (intOf i).toNat)
    case atStart => exact ⟨0, Nat.zero_le _, rfl, by rw [HZ.out], H2.out.below⟩
    case round =>
      obtain ⟨m, hm, hi, hv, hb⟩ := hrel
      obtain rfl := hi
      have HB := Lib.hid hb; clear hb
      have hs := (HSB2.out m hm)
      by_cases hlt : m < xs.length
      · obtain ⟨bb, o, rfl, hbl, hc⟩ := HC.out m hlt
        have hc := (bcell HB.out).1 bb (o + m) hbl |>.trans hc
        have hs2 := (HSB2.out (m + 1) hlt)
        have HS := HST.out m
        have hz1 : (m : Int) < (xs.length : Int) := by omega
        have hz2 : (0 : Int) ≤ m := by omega
        generalize atZ xs m = z at *
        have hle : (m : Int) ≤ 1048576 := by omega
        have hle2 : ((m + 1 : Nat) : Int) ≤ 1048576 := by omega
        have e1 : IntKind.i64.wrap (S m + z) = S m + z := IntWalk.i64_in _ (by omega)
        have HN := Lib.hid HS; clear HS hs hs2
        generalize S m = sv at *
        subst hv
        go_wp2_with fail
        exact ⟨⟨m + 1, by omega, by go_num, by rw [HN.out], HB.out⟩, by simp [intOf]; omega⟩
      · obtain rfl : m = xs.length := by omega
        have hle : (xs.length : Int) ≤ 1048576 := by omega
        have hs3 : 0 ≤ S xs.length ∧ S xs.length ≤ 10485760000 := by omega
        clear hs
        generalize S xs.length = sv at *
        subst hv
        have e1 : IntKind.i64.wrap (sv + l) = sv + l := IntWalk.i64_in _ (by omega)
        have e2 : IntKind.i64.wrap (sv + l - 1) = sv + l - 1 := IntWalk.i64_in _ (by omega)
        have n0 : ¬ l = 0 := by omega
        have u1 : 0 ≤ (sv + l - 1) / l := Int.ediv_nonneg (by omega) (by omega)
        have u3 : (sv + l - 1) / l ≤ sv + l - 1 := Int.ediv_le_self _ (by omega)
        go_wp2_with fail
        go_ret
        exact ⟨ret_int (by rw [HR2.out]), HB.out⟩
  · have HQ := Lib.hid hb; clear hb HSB HIB
    cases b1 <;> cases b2
    all_goals first | (exact absurd (by rfl) HQ.out) | skip
    all_goals
      go_enter Try.func28, Try.ntmps28
      go_wp2_with fail
      refine (HA.out _ HV.out).mono ?_
      rintro e wH1 ⟨rfl, hb⟩
      have H1 := Lib.hid ((H0.out).step hb); clear hb
      go_wp2_with fail
      repeat' (first | ((first | (with_reducible refine (HB.out _).mono ?_) | fail); rintro e wn ⟨rfl, hb⟩; have H1 := Lib.hid (H1.out.step hb); clear hb; go_wp2_with fail) | fail)
      go_ret
      exact ⟨ret_int (by rw [HR.out]; simp), H1.out.below⟩

set_option maxRecDepth 100000 in
theorem implBound (xs : List Int) (v : Value) (l : Int) (w : World) (hv : Seq w v xs) (hl : xs.length ≤ 1048576) :
    Calls Try.prog 30 #[v, .int .i64 l] w (IntIs (boundI xs l) w) := by
  have HA := Lib.hid (fun w h => implWeights xs v w h)
  have hlen := hl
  have hvl := hv.len
  have HV := Lib.hid hv
  have HIB := Lib.hid (inB_iff l 1 100000)
  have HSB := Lib.hid (fun h : inR xs 0 10000 = true => sumL_bd h)
  have HST := Lib.hid (fun n => (show sumL xs (n + 1) = sumL xs n + atZ xs n from rfl))
  have HZ := Lib.hid (show sumL xs 0 = 0 from rfl)
  have HR := Lib.hid (show boundI xs l = if inR xs 0 10000 && inB l 1 100000 then (sumL xs xs.length + l - 1) / l else 0 from rfl)
  obtain ⟨A, c, rfl, hc1, hc2, hcs⟩ := hv.form
  have HC := Lib.hid hcs; clear hcs hv
  generalize sumL xs = S at *
  generalize boundI xs l = r at *
  generalize inR xs 0 10000 = b1 at *
  generalize inB l 1 100000 = b2 at *
  have H0 := Lib.hid (Held.none_ w)
  by_cases h1 : l < 1
  · have hf : b2 = false := by by_cases h : b2 = true; (· have := HIB.out.1 h; omega); (· simpa using h)
    subst hf
    clear HIB HSB
    have H1 := Lib.hid h1
    go_enter Try.func30, Try.ntmps30
    go_wp2_with fail
    go_ret
    exact ⟨ret_int (by rw [HR.out]; simp), H0.out.below⟩
  by_cases h2 : 100000 < l
  · have hf : b2 = false := by by_cases h : b2 = true; (· have := HIB.out.1 h; omega); (· simpa using h)
    subst hf
    clear HIB HSB
    go_enter Try.func30, Try.ntmps30
    go_wp2_with fail
    go_ret
    exact ⟨ret_int (by rw [HR.out]; simp), H0.out.below⟩
  have l1 : 1 ≤ l := by omega
  have l2 : l ≤ 100000 := by omega
  obtain rfl : b2 = true := HIB.out.2 ⟨l1, l2⟩
  clear HIB
  cases b1
  · clear HSB
    go_enter Try.func30, Try.ntmps30
    go_wp2_with fail
    refine (HA.out _ HV.out).mono ?_
    rintro e wH1 ⟨rfl, hb⟩
    have H1 := Lib.hid ((H0.out).step hb); clear hb
    go_wp2_with fail
    go_ret
    exact ⟨ret_int (by rw [HR.out]; simp), H1.out.below⟩
  · have HSB2 := Lib.hid (HSB.out rfl); clear HSB
    have HR2 := Lib.hid (show r = (S xs.length + l - 1) / l from by rw [HR.out]; rfl)
    clear HR
    go_enter Try.func30, Try.ntmps30
    go_wp2_with fail
    refine (HA.out _ HV.out).mono ?_
    rintro e wH2 ⟨rfl, hb⟩
    have H2 := Lib.hid ((H0.out).step hb); clear hb
    go_wp2_with fail
    go_loopw [5, 21] (fun v i wr => ∃ m : Nat, m ≤ xs.length ∧ i = .int .i64 m ∧ v = .int .i64 (S m) ∧ Below w.heap.size w wr) (fun _ i _ => xs.length - (intOf i).toNat)
    case atStart => exact ⟨0, Nat.zero_le _, rfl, by rw [HZ.out], H2.out.below⟩
    case round =>
      obtain ⟨m, hm, hi, hv, hb⟩ := hrel
      obtain rfl := hi
      have HB := Lib.hid hb; clear hb
      have hs := (HSB2.out m hm)
      by_cases hlt : m < xs.length
      · obtain ⟨bb, o, rfl, hbl, hc⟩ := HC.out m hlt
        have hc := (bcell HB.out).1 bb (o + m) hbl |>.trans hc
        have hs2 := (HSB2.out (m + 1) hlt)
        have HS := HST.out m
        have hz1 : (m : Int) < (xs.length : Int) := by omega
        have hz2 : (0 : Int) ≤ m := by omega
        generalize atZ xs m = z at *
        have hle : (m : Int) ≤ 1048576 := by omega
        have hle2 : ((m + 1 : Nat) : Int) ≤ 1048576 := by omega
        have e1 : IntKind.i64.wrap (S m + z) = S m + z := IntWalk.i64_in _ (by omega)
        have HN := Lib.hid HS; clear HS hs hs2
        generalize S m = sv at *
        subst hv
        go_wp2_with fail
        exact ⟨⟨m + 1, by omega, by go_num, by rw [HN.out], HB.out⟩, by simp [intOf]; omega⟩
      · obtain rfl : m = xs.length := by omega
        have hle : (xs.length : Int) ≤ 1048576 := by omega
        have hs3 : 0 ≤ S xs.length ∧ S xs.length ≤ 10485760000 := by omega
        clear hs
        generalize S xs.length = sv at *
        subst hv
        have e1 : IntKind.i64.wrap (sv + l) = sv + l := IntWalk.i64_in _ (by omega)
        have e2 : IntKind.i64.wrap (sv + l - 1) = sv + l - 1 := IntWalk.i64_in _ (by omega)
        have n0 : ¬ l = 0 := by omega
        have u1 : 0 ≤ (sv + l - 1) / l := Int.ediv_nonneg (by omega) (by omega)
        have u3 : (sv + l - 1) / l ≤ sv + l - 1 := Int.ediv_le_self _ (by omega)
        go_wp2_with fail
        go_ret
        exact ⟨ret_int (by rw [HR2.out]), HB.out⟩
end Go.Proofs.Ytghpbdgghliieab
