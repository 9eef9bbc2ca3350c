/-
  One stain is put in place of another, of the program and of the model.
-/
import Derived.Test.YtfckgidilbjokacCol
import Derived.Test.YtfckgidilbjokacTrD
namespace Go.Proofs.Ytfckgidilbjokac
open Go.RowKit
set_option linter.unusedVariables false
set_option linter.unusedSimpArgs false

def wstB (xs : List Tr) (f : Int) (s : Tr) : Bool := stainB s && inB f 0 ((xs.length : Int) - 1)
def wstT (xs : List Tr) (f : Int) (s : Tr) : List Tr := if wstB xs f s = true then xs.set f.toNat s else xs
theorem wstT_len (xs : List Tr) (f : Int) (s : Tr) : (wstT xs f s).length = xs.length := by
  unfold wstT
  split <;> simp

set_option maxRecDepth 100000 in
set_option maxHeartbeats 1000000 in
theorem implWith (xs : List Tr) (v : Value) (f : Int) (s : Tr) (w : World) (hv : Trs w v xs) (hlen : xs.length ≤ 1048576) :
    Calls Try.prog 33 #[v, .int .i64 f, s.val] w (TpsOk 51 (wstT xs f s) (wstB xs f s) w) := by
  have HV := Lib.hid hv
  obtain ⟨A, c, rfl⟩ := hv.form2
  clear hv
  have HC := Lib.hid (fun w h => cloneStains xs (.slice A xs.length c) w h hlen)
  unfold TpsNew at HC
  have HS := Lib.hid (implStain s)
  have HT := Lib.hid (show wstT xs f s = if wstB xs f s = true then xs.set f.toNat s else xs from rfl)
  have HB := Lib.hid (show wstB xs f s = (stainB s && inB f 0 ((xs.length : Int) - 1)) from rfl)
  have HI := Lib.hid (inB_iff f 0 ((xs.length : Int) - 1))
  generalize wstT xs f s = res at *
  generalize wstB xs f s = ok at *
  generalize stainB s = d at *
  have H0 := Lib.hid (heldT1 w s 51)
  obtain ⟨x, y, z⟩ := s
  unfold Tr.val at *
  simp only at H0
  go_enter Try.func33, Try.ntmps33
  go_wp2_with fail
  refine (HC.out _ (HV.out.step H0.out.below)).mono ?_
  rintro e w1 ⟨vr, rfl, hm, hb⟩
  have H1 := Lib.hid (H0.out.step hb)
  have M1 := Lib.hid (hm.mono (b' := w.heap.size + 1) (by simp)); clear hm hb HC
  by_cases hf : inB f 0 ((xs.length : Int) - 1) = true
  · obtain ⟨hf1, hf2⟩ := HI.out.1 hf
    rw [hf] at HB
    obtain ⟨j, rfl⟩ : ∃ j : Nat, f = j := ⟨f.toNat, by omega⟩
    have hj : j < xs.length := by omega
    clear hf HI
    have q1 : (0 : Int) ≤ (j : Int) := by omega
    have q2 : (j : Int) < (xs.length : Int) := by omega
    cases d
    · obtain ⟨x0, x1, x2, _⟩ := H1.out.1
      go_wp2_with fail
      refine (HS.out _).mono ?_
      rintro e w2 ⟨rfl, hb⟩
      have H2 := Lib.hid (H1.out.step hb)
      have M2 := Lib.hid ((M1.out.step hb).mono (b' := w.heap.size) (by omega)); clear hb
      go_wp2_with fail
      all_goals first | (exfalso; omega) | skip
      go_ret2
      have hok : ok = false := by rw [HB.out]; simp
      refine ⟨_, by rw [hok]; rfl, ?_, H2.out.below⟩
      rw [HT.out, if_neg (by rw [hok]; simp)]
      exact M2.out
    · obtain ⟨x0, x1, x2, _⟩ := H1.out.1
      go_wp2_with fail
      refine (HS.out _).mono ?_
      rintro e w2 ⟨rfl, hb⟩
      replace H1 := Lib.hid (H1.out.step hb)
      replace M1 := Lib.hid ((M1.out.step hb).mono (b' := w.heap.size) (by omega)); clear hb x0 x1 x2
      obtain ⟨g, cap, rfl⟩ := M1.out.some_ (by omega)
      obtain ⟨k0, k1, k2, f0, f1, f2⟩ := M1.out.at_ hj
      have MS := Lib.hid (M1.out.set (k := j) rfl hj ⟨x, y, z⟩)
      have hgb := (M1.out.own g rfl).1
      obtain ⟨x0, x1, x2, _⟩ := H1.out.1
      go_wp2_with fail
      all_goals first | (exfalso; omega) | skip
      go_ret2
      have hok : ok = true := by rw [HB.out]; rfl
      refine ⟨_, by rw [hok]; rfl, ?_, ((H1.out.below.setCell hgb _).setCell hgb _).setCell hgb _⟩
      rw [HT.out, if_pos hok, Int.toNat_natCast]
      exact MS.out
  · have hf0 : inB f 0 ((xs.length : Int) - 1) = false := by simpa using hf
    rw [hf0] at HB
    have HF := Lib.hid (show ¬ (0 ≤ f ∧ f ≤ (xs.length : Int) - 1) from fun h => hf (HI.out.2 h))
    clear hf hf0 HI
    cases d
    · obtain ⟨x0, x1, x2, _⟩ := H1.out.1
      go_wp2_with fail
      refine (HS.out _).mono ?_
      rintro e w2 ⟨rfl, hb⟩
      have H2 := Lib.hid (H1.out.step hb)
      have M2 := Lib.hid ((M1.out.step hb).mono (b' := w.heap.size) (by omega)); clear hb
      go_wp2_with fail
      all_goals
        go_ret2
        have hok : ok = false := by rw [HB.out]; simp
        refine ⟨_, by rw [hok]; rfl, ?_, H2.out.below⟩
        rw [HT.out, if_neg (by rw [hok]; simp)]
        exact M2.out
    · by_cases h1 : f < 0
      · obtain ⟨x0, x1, x2, _⟩ := H1.out.1
        go_wp2_with fail
        refine (HS.out _).mono ?_
        rintro e w2 ⟨rfl, hb⟩
        have H2 := Lib.hid (H1.out.step hb)
        have M2 := Lib.hid ((M1.out.step hb).mono (b' := w.heap.size) (by omega)); clear hb
        go_wp2_with fail
        all_goals first | (exfalso; omega) | skip
        go_ret2
        have hok : ok = false := by rw [HB.out]; simp
        refine ⟨_, by rw [hok]; rfl, ?_, H2.out.below⟩
        rw [HT.out, if_neg (by rw [hok]; simp)]
        exact M2.out
      · have h2 : (xs.length : Int) ≤ f := by have := HF.out; omega
        obtain ⟨x0, x1, x2, _⟩ := H1.out.1
        go_wp2_with fail
        refine (HS.out _).mono ?_
        rintro e w2 ⟨rfl, hb⟩
        have H2 := Lib.hid (H1.out.step hb)
        have M2 := Lib.hid ((M1.out.step hb).mono (b' := w.heap.size) (by omega)); clear hb
        go_wp2_with fail
        all_goals first | (exfalso; omega) | skip
        go_ret2
        have hok : ok = false := by rw [HB.out]; simp
        refine ⟨_, by rw [hok]; rfl, ?_, H2.out.below⟩
        rw [HT.out, if_neg (by rw [hok]; simp)]
        exact M2.out

set_option maxRecDepth 100000 in
set_option maxHeartbeats 1000000 in
theorem specWith (xs : List Tr) (v : Value) (f : Int) (s : Tr) (w : World) (hv : Trs w v xs) (hlen : xs.length ≤ 1048576) :
    Calls Try.prog 30 #[v, .int .i64 f, s.val] w (TpsOk 51 (wstT xs f s) (wstB xs f s) w) := by
  obtain ⟨i0, hi, hz0, hz1, hz2⟩ := info_parts infoStain
  have HA := Lib.hid (fun w2 v2 (h : Trs w2 v2 xs) (g : Nat) (hg : w2.heap[g]? = some (.cells #[] 51 (0, 0))) (hB : w.heap.size + 1 ≤ g) => run_append_emptyT (P := Try.prog) (ty := 47) Try.underlying47 hi hz0 hz1 hz2 rfl hg hB h hlen)
  clear hi hz0 hz1 hz2
  have HV := Lib.hid hv
  obtain ⟨A, c, rfl⟩ := hv.form2
  clear hv
  have HS := Lib.hid (specStainOk s)
  have HN := Lib.hid (fun w => specInB f 0 ((xs.length : Int) - 1) w)
  have HT := Lib.hid (show wstT xs f s = if wstB xs f s = true then xs.set f.toNat s else xs from rfl)
  have HB := Lib.hid (show wstB xs f s = (stainB s && inB f 0 ((xs.length : Int) - 1)) from rfl)
  have HI := Lib.hid (inB_iff f 0 ((xs.length : Int) - 1))
  generalize wstT xs f s = res at *
  generalize wstB xs f s = ok at *
  generalize stainB s = d at *
  have H0 := Lib.hid (heldT1 w s 51)
  obtain ⟨x, y, z⟩ := s
  unfold Tr.val at *
  simp only at H0
  have hsz0 : (w.alloc (.cells #[.int .i64 x, .int .i64 y, .int .i64 z] 51)).heap.size = w.heap.size + 1 := by simp
  obtain ⟨vr, w1, hr, ho, hb⟩ := HA.out ((w.alloc (.cells #[.int .i64 x, .int .i64 y, .int .i64 z] 51)).alloc (.cells #[] 51)) _ (HV.out.step (H0.out.alloc _).below) (w.alloc (.cells #[.int .i64 x, .int .i64 y, .int .i64 z] 51)).heap.size (heap_alloc_new _ _) (by simp)
  have H1 := Lib.hid ((H0.out.alloc (.cells #[] 51)).step hb)
  have M1 := Lib.hid ho; clear ho hb
  rw [hsz0] at hr
  clear hsz0
  go_enter Try.func30, Try.ntmps30
  obtain ⟨x0, x1, x2, _⟩ := H1.out.1
  go_wp2_with (at_builtin; refine wpList_append_run rfl _ _ 47 rfl vr w1 hr ?_)
  clear hr
  cases d
  · refine (HS.out _).mono ?_
    rintro e w2 ⟨rfl, hb⟩
    have H2 := Lib.hid (H1.out.step hb)
    have M2 := Lib.hid ((M1.out.step hb).mono (b' := w.heap.size) (by omega)); clear hb
    go_wp2_with fail
    go_ret2
    have hok : ok = false := by rw [HB.out]; simp
    refine ⟨_, by rw [hok]; rfl, ?_, H2.out.below⟩
    rw [HT.out, if_neg (by rw [hok]; simp)]
    exact M2.out
  by_cases hf : inB f 0 ((xs.length : Int) - 1) = true
  · obtain ⟨hf1, hf2⟩ := HI.out.1 hf
    rw [hf] at HB HN
    obtain ⟨j, rfl⟩ : ∃ j : Nat, f = j := ⟨f.toNat, by omega⟩
    have hj : j < xs.length := by omega
    clear hf HI
    have q1 : (0 : Int) ≤ (j : Int) := by omega
    have q2 : (j : Int) < (xs.length : Int) := by omega
    refine (HS.out _).mono ?_
    rintro e w2 ⟨rfl, hb⟩
    have H2 := Lib.hid (H1.out.step hb)
    have M2 := Lib.hid ((M1.out.step hb).mono (b' := w.heap.size) (by omega)); clear hb
    go_wp2_with fail
    refine (HN.out _).mono ?_
    rintro e w3 ⟨rfl, hb⟩
    replace H1 := Lib.hid (H2.out.step hb)
    replace M1 := Lib.hid (M2.out.step hb); clear hb x0 x1 x2 H2 M2
    obtain ⟨g, cap, rfl⟩ := M1.out.some_ (by omega)
    obtain ⟨k0, k1, k2, f0, f1, f2⟩ := M1.out.at_ hj
    have MS := Lib.hid (M1.out.set (k := j) rfl hj ⟨x, y, z⟩)
    have hgb := (M1.out.own g rfl).1
    obtain ⟨x0, x1, x2, _⟩ := H1.out.1
    go_wp2_with fail
    go_ret2
    have hok : ok = true := by rw [HB.out]; rfl
    refine ⟨_, by rw [hok]; rfl, ?_, ((H1.out.below.setCell hgb _).setCell hgb _).setCell hgb _⟩
    rw [HT.out, if_pos hok, Int.toNat_natCast]
    exact MS.out
  · have hf0 : inB f 0 ((xs.length : Int) - 1) = false := by simpa using hf
    rw [hf0] at HB HN
    clear hf hf0 HI
    refine (HS.out _).mono ?_
    rintro e w2 ⟨rfl, hb⟩
    replace H1 := Lib.hid (H1.out.step hb)
    replace M1 := Lib.hid ((M1.out.step hb).mono (b' := w.heap.size) (by omega)); clear hb
    go_wp2_with fail
    refine (HN.out _).mono ?_
    rintro e w3 ⟨rfl, hb⟩
    have H2 := Lib.hid (H1.out.step hb)
    have M2 := Lib.hid (M1.out.step hb); clear hb
    go_wp2_with fail
    go_ret2
    have hok : ok = false := by rw [HB.out]; simp
    refine ⟨_, by rw [hok]; rfl, ?_, H2.out.below⟩
    rw [HT.out, if_neg (by rw [hok]; simp)]
    exact M2.out
end Go.Proofs.Ytfckgidilbjokac
