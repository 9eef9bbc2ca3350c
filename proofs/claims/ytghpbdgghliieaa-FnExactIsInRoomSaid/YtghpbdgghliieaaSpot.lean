/-
  The spot of light of a node, of the model and of the program.
-/
import Derived.Test.YtghpbdgghliieaaSun
import Derived.Test.YtghpbdgghliieaaNodeB
import Derived.Test.YtghpbdgghliieaaImplNode
namespace Go.Proofs.Ytghpbdgghliieaa
open Go.RowKit
set_option linter.unusedVariables false
set_option linter.unusedSimpArgs false

/-- The answer: place, depth, parts, and whether there is one. -/
structure Sp where
  p : Int
  d : Int
  f : Int
  ok : Bool
def Sp.val (s : Sp) : Value := .tuple #[.int .i64 s.p, .int .i64 s.d, .int .i64 s.f, .bool s.ok]
def spotS (n : Nd) (k : Int) (s : Tr) : Sp := if okB n && (sunB s && inB k 0 1000) then ⟨n.x * s.y + (k + n.y) * s.x, (k + n.y) * s.z, s.y, true⟩ else ⟨0, 0, 0, false⟩
def SpIs (v : Sp) (w : World) (e : Ending) (w' : World) : Prop := e = .returned v.val ∧ Below w.heap.size w w'

set_option maxRecDepth 100000 in
theorem specSpot (n : Nd) (k : Int) (s : Tr) (w : World) :
    Calls Try.prog 21 #[n.val, .int .i64 k, s.val] w (SpIs (spotS n k s) w) := by
  have HA := Lib.hid (specNodeOk n)
  have HB := Lib.hid (specSunOk s)
  have HC := Lib.hid (specInB k 0 1000)
  have HR := Lib.hid (show spotS n k s = if okB n && (sunB s && inB k 0 1000) then ⟨n.x * s.y + (k + n.y) * s.x, (k + n.y) * s.z, s.y, true⟩ else ⟨0, 0, 0, false⟩ from rfl)
  have HK := Lib.hid (inB_iff k 0 1000)
  have HN := Lib.hid (okB_iff n)
  have HT := Lib.hid (triB_iff (-1000) 1000 1 1000 1 100 s)
  have H0 := Lib.hid ((held1 w n 44).new2 (w.heap.size + 1) (by simp) [.int .i64 s.x, .int .i64 s.y, .int .i64 s.z] 46)
  simp only [newFs, List.cons_append, List.nil_append, List.append_nil] at H0
  change (Hid (sunB s = true ↔ _)) at HT
  generalize spotS n k s = r at *
  generalize okB n = b1 at *
  generalize sunB s = b2 at *
  generalize inB k 0 1000 = b3 at *
  obtain ⟨nx, ny⟩ := n
  obtain ⟨x, y, z⟩ := s
  unfold Tr.val Nd.val at *
  simp only at H0 HA HB HC HR HN HT
  unfold SpIs
  by_cases hb : (b1 && (b2 && b3)) = true
  · obtain ⟨rfl, rfl, rfl⟩ : b1 = true ∧ b2 = true ∧ b3 = true := by simpa [Bool.and_eq_true, and_assoc] using hb
    clear hb
    obtain ⟨⟨a1, a2⟩, a3, a4⟩ := HN.out.1 rfl
    obtain ⟨⟨c1, c2⟩, ⟨c3, c4⟩, c5, c6⟩ := HT.out.1 rfl
    obtain ⟨k1, k2⟩ := HK.out.1 rfl
    have e1 : IntKind.i64.wrap (k + ny) = k + ny := IntWalk.i64_in _ (by omega)
    obtain ⟨p1, p2⟩ := prod_bd (p := nx) (q := y) 1000 (by omega) (by omega) (by omega) (by omega)
    obtain ⟨q1, q2⟩ := prod_bd (p := k + ny) (q := x) 1020 (by omega) (by omega) (by omega) (by omega)
    obtain ⟨r1, r2⟩ := prod_bd (p := k + ny) (q := z) 1020 (by omega) (by omega) (by omega) (by omega)
    have e2 : IntKind.i64.wrap (nx * y) = nx * y := IntWalk.i64_in _ (by omega)
    have e3 : IntKind.i64.wrap ((k + ny) * x) = (k + ny) * x := IntWalk.i64_in _ (by omega)
    have e4 : IntKind.i64.wrap ((k + ny) * z) = (k + ny) * z := IntWalk.i64_in _ (by omega)
    have e5 : IntKind.i64.wrap (nx * y + (k + ny) * x) = nx * y + (k + ny) * x := IntWalk.i64_in _ (by omega)
    have hr : Sp.val r = .tuple #[.int .i64 (nx * y + (k + ny) * x), .int .i64 ((k + ny) * z), .int .i64 y, .bool true] := by rw [HR.out]; rfl
    rw [hr]; clear hr
    clear p1 p2 q1 q2 r1 r2
    go_enter Try.func21, Try.ntmps21
    go_wp2_with fail
    repeat' (first | ((first | (with_reducible refine (HA.out _).mono ?_) | (with_reducible refine (HB.out _).mono ?_) | (with_reducible refine (HC.out _).mono ?_) | fail); rintro e wn ⟨rfl, hb⟩; have H0 := Lib.hid (H0.out.step hb); clear hb; (try clear x0 x1 x2 x3 x4); obtain ⟨x0, x1, x2, x3, x4, _⟩ := H0.out.1; go_wp2_with fail) | fail)
    go_quiet (fail)
    go_wp2_with fail
    refine bodyPost_ret (v := .tuple #[.int .i64 (nx * y + (k + ny) * x), .int .i64 ((k + ny) * z), .int .i64 y, .bool true]) (by simp [results, Try.results21, go_sem]) rfl ⟨rfl, below_drewN H0.out.below _⟩
  · have hr : Sp.val r = .tuple #[.int .i64 0, .int .i64 0, .int .i64 0, .bool false] := by rw [HR.out, if_neg hb]; rfl
    rw [hr]; clear hr
    have HF := Lib.hid hb; clear hb
    cases b1 <;> cases b2 <;> cases b3
    all_goals first | (exact absurd (by rfl) HF.out) | skip
    all_goals
      go_enter Try.func21, Try.ntmps21
      go_wp2_with fail
      repeat' (first | ((first | (with_reducible refine (HA.out _).mono ?_) | (with_reducible refine (HB.out _).mono ?_) | (with_reducible refine (HC.out _).mono ?_) | fail); rintro e wn ⟨rfl, hb⟩; have H0 := Lib.hid (H0.out.step hb); clear hb; (try clear x0 x1 x2 x3 x4); obtain ⟨x0, x1, x2, x3, x4, _⟩ := H0.out.1; go_wp2_with fail) | fail)
      refine bodyPost_ret (v := .tuple #[.int .i64 0, .int .i64 0, .int .i64 0, .bool false]) (by simp [results, Try.results21, go_sem]) rfl ⟨rfl, H0.out.below⟩

theorem implSill (k : Int) (w : World) : Calls Try.prog 41 #[.int .i64 k] w (BoolIs (inB k 0 1000) w) := by
  have hr : inB k 0 1000 = decide (0 ≤ k ∧ k ≤ 1000) := by rw [Bool.eq_iff_iff, inB_iff]; simp
  generalize inB k 0 1000 = r at *
  have HR := Lib.hid hr; clear hr
  go_enter Try.func41, Try.ntmps41
  go_wp2
  all_goals
    go_ret
    exact ⟨ret_bool (by rw [HR.out, Bool.eq_iff_iff]; simp; omega), Below.refl _ _⟩

set_option maxRecDepth 100000 in
theorem implSpot (n : Nd) (k : Int) (s : Tr) (w : World) :
    Calls Try.prog 24 #[n.val, .int .i64 k, s.val] w (SpIs (spotS n k s) w) := by
  have HA := Lib.hid (implOnBoard n)
  have HB := Lib.hid (implSun s)
  have HC := Lib.hid (implSill k)
  have HR := Lib.hid (show spotS n k s = if okB n && (sunB s && inB k 0 1000) then ⟨n.x * s.y + (k + n.y) * s.x, (k + n.y) * s.z, s.y, true⟩ else ⟨0, 0, 0, false⟩ from rfl)
  have HK := Lib.hid (inB_iff k 0 1000)
  have HN := Lib.hid (okB_iff n)
  have HT := Lib.hid (triB_iff (-1000) 1000 1 1000 1 100 s)
  have H0 := Lib.hid ((held1 w n 44).new2 (w.heap.size + 1) (by simp) [.int .i64 s.x, .int .i64 s.y, .int .i64 s.z] 46)
  simp only [newFs, List.cons_append, List.nil_append, List.append_nil] at H0
  change (Hid (sunB s = true ↔ _)) at HT
  generalize spotS n k s = r at *
  generalize okB n = b1 at *
  generalize sunB s = b2 at *
  generalize inB k 0 1000 = b3 at *
  obtain ⟨nx, ny⟩ := n
  obtain ⟨x, y, z⟩ := s
  unfold Tr.val Nd.val at *
  simp only at H0 HA HB HC HR HN HT
  unfold SpIs
  by_cases hb : (b1 && (b2 && b3)) = true
  · obtain ⟨rfl, rfl, rfl⟩ : b1 = true ∧ b2 = true ∧ b3 = true := by simpa [Bool.and_eq_true, and_assoc] using hb
    clear hb
    obtain ⟨⟨a1, a2⟩, a3, a4⟩ := HN.out.1 rfl
    obtain ⟨⟨c1, c2⟩, ⟨c3, c4⟩, c5, c6⟩ := HT.out.1 rfl
    obtain ⟨k1, k2⟩ := HK.out.1 rfl
    have e1 : IntKind.i64.wrap (k + ny) = k + ny := IntWalk.i64_in _ (by omega)
    obtain ⟨p1, p2⟩ := prod_bd (p := nx) (q := y) 1000 (by omega) (by omega) (by omega) (by omega)
    obtain ⟨q1, q2⟩ := prod_bd (p := k + ny) (q := x) 1020 (by omega) (by omega) (by omega) (by omega)
    obtain ⟨r1, r2⟩ := prod_bd (p := k + ny) (q := z) 1020 (by omega) (by omega) (by omega) (by omega)
    have e2 : IntKind.i64.wrap (nx * y) = nx * y := IntWalk.i64_in _ (by omega)
    have e3 : IntKind.i64.wrap ((k + ny) * x) = (k + ny) * x := IntWalk.i64_in _ (by omega)
    have e4 : IntKind.i64.wrap ((k + ny) * z) = (k + ny) * z := IntWalk.i64_in _ (by omega)
    have e5 : IntKind.i64.wrap (nx * y + (k + ny) * x) = nx * y + (k + ny) * x := IntWalk.i64_in _ (by omega)
    have hr : Sp.val r = .tuple #[.int .i64 (nx * y + (k + ny) * x), .int .i64 ((k + ny) * z), .int .i64 y, .bool true] := by rw [HR.out]; rfl
    rw [hr]; clear hr
    clear p1 p2 q1 q2 r1 r2
    go_enter Try.func24, Try.ntmps24
    go_wp2_with fail
    repeat' (first | ((first | (with_reducible refine (HA.out _).mono ?_) | (with_reducible refine (HB.out _).mono ?_) | (with_reducible refine (HC.out _).mono ?_) | fail); rintro e wn ⟨rfl, hb⟩; have H0 := Lib.hid (H0.out.step hb); clear hb; (try clear x0 x1 x2 x3 x4); obtain ⟨x0, x1, x2, x3, x4, _⟩ := H0.out.1; go_wp2_with fail) | fail)
    go_quiet (fail)
    go_wp2_with fail
    refine bodyPost_ret (v := .tuple #[.int .i64 (nx * y + (k + ny) * x), .int .i64 ((k + ny) * z), .int .i64 y, .bool true]) (by simp [results, Try.results24, go_sem]) rfl ⟨rfl, below_drewN H0.out.below _⟩
  · have hr : Sp.val r = .tuple #[.int .i64 0, .int .i64 0, .int .i64 0, .bool false] := by rw [HR.out, if_neg hb]; rfl
    rw [hr]; clear hr
    have HF := Lib.hid hb; clear hb
    cases b1 <;> cases b2 <;> cases b3
    all_goals first | (exact absurd (by rfl) HF.out) | skip
    all_goals
      go_enter Try.func24, Try.ntmps24
      go_wp2_with fail
      repeat' (first | ((first | (with_reducible refine (HA.out _).mono ?_) | (with_reducible refine (HB.out _).mono ?_) | (with_reducible refine (HC.out _).mono ?_) | fail); rintro e wn ⟨rfl, hb⟩; have H0 := Lib.hid (H0.out.step hb); clear hb; (try clear x0 x1 x2 x3 x4); obtain ⟨x0, x1, x2, x3, x4, _⟩ := H0.out.1; go_wp2_with fail) | fail)
      refine bodyPost_ret (v := .tuple #[.int .i64 0, .int .i64 0, .int .i64 0, .bool false]) (by simp [results, Try.results24, go_sem]) rfl ⟨rfl, H0.out.below⟩

def roomB (n : Nd) (k : Int) (s : Tr) (d : Int) : Bool := (spotS n k s).ok && (inB d 0 1000 && decide ((spotS n k s).d ≤ d * (spotS n k s).f))
theorem spotS_bd (n : Nd) (k : Int) (s : Tr) : 0 ≤ (spotS n k s).f ∧ (spotS n k s).f ≤ 1000 := by
  unfold spotS
  by_cases h : (okB n && (sunB s && inB k 0 1000)) = true
  · rw [if_pos h]
    simp only [Bool.and_eq_true] at h
    have := (triB_iff (-1000) 1000 1 1000 1 100 s).1 h.2.1
    simp only
    omega
  · rw [if_neg h]; simp

set_option maxRecDepth 100000 in
theorem specRoom (n : Nd) (k : Int) (s : Tr) (d : Int) (w : World) :
    Calls Try.prog 25 #[n.val, .int .i64 k, s.val, .int .i64 d] w (BoolIs (roomB n k s d) w) := by
  have HA := Lib.hid (specSpot n k s)
  have HB := Lib.hid (specInB d 0 1000)
  have HR := Lib.hid (show roomB n k s d = ((spotS n k s).ok && (inB d 0 1000 && decide ((spotS n k s).d ≤ d * (spotS n k s).f))) from rfl)
  have HK := Lib.hid (inB_iff d 0 1000)
  have HBD := spotS_bd n k s
  have H0 := Lib.hid ((held1 w n 44).new2 (w.heap.size + 1) (by simp) [.int .i64 s.x, .int .i64 s.y, .int .i64 s.z] 46)
  simp only [newFs, List.cons_append, List.nil_append, List.append_nil] at H0
  generalize roomB n k s d = r at *
  generalize spotS n k s = sp at *
  generalize inB d 0 1000 = b3 at *
  obtain ⟨nx, ny⟩ := n
  obtain ⟨x, y, z⟩ := s
  obtain ⟨pp, pd, pf, ok⟩ := sp
  unfold SpIs at HA
  unfold Sp.val Tr.val Nd.val at *
  simp only at H0 HA HB HR HBD
  cases ok
  · clear HBD
    go_enter Try.func25, Try.ntmps25
    go_wp2_with fail
    repeat' (first | ((first | (with_reducible refine (HA.out _).mono ?_) | (with_reducible refine (HB.out _).mono ?_) | fail); rintro e wn ⟨rfl, hb⟩; have H0 := Lib.hid (H0.out.step hb); clear hb; (try clear x0 x1 x2 x3 x4); obtain ⟨x0, x1, x2, x3, x4, _⟩ := H0.out.1; go_wp2_with fail) | fail)
    go_ret
    exact ⟨ret_bool (by rw [HR.out]; simp), H0.out.below⟩
  by_cases hb : b3 = true
  · subst hb
    obtain ⟨k1, k2⟩ := HK.out.1 rfl
    obtain ⟨p1, p2⟩ := prod_bd (p := d) (q := pf) 1000 (by omega) (by omega) (by omega) (by omega)
    have e1 : IntKind.i64.wrap (d * pf) = d * pf := IntWalk.i64_in _ (by omega)
    go_enter Try.func25, Try.ntmps25
    go_wp2_with fail
    repeat' (first | ((first | (with_reducible refine (HA.out _).mono ?_) | (with_reducible refine (HB.out _).mono ?_) | fail); rintro e wn ⟨rfl, hb⟩; have H0 := Lib.hid (H0.out.step hb); clear hb; (try clear x0 x1 x2 x3 x4); obtain ⟨x0, x1, x2, x3, x4, _⟩ := H0.out.1; go_wp2_with fail) | fail)
    all_goals
      go_ret
      exact ⟨ret_bool (by rw [HR.out, Bool.eq_iff_iff]; simp; try omega), H0.out.below⟩
  · have HF := Lib.hid hb
    obtain rfl : b3 = false := by simpa using hb
    clear hb HBD
    have HK := Lib.hid (show ¬ (0 ≤ d ∧ d ≤ 1000) from fun h => by have := HK.out.2 h; cases this)
    go_enter Try.func25, Try.ntmps25
    go_wp2_with fail
    repeat' (first | ((first | (with_reducible refine (HA.out _).mono ?_) | (with_reducible refine (HB.out _).mono ?_) | fail); rintro e wn ⟨rfl, hb⟩; have H0 := Lib.hid (H0.out.step hb); clear hb; (try clear x0 x1 x2 x3 x4); obtain ⟨x0, x1, x2, x3, x4, _⟩ := H0.out.1; go_wp2_with fail) | fail)
    all_goals
      go_ret
      exact ⟨ret_bool (by rw [HR.out]; have := HK.out; simp; try omega), H0.out.below⟩

set_option maxRecDepth 100000 in
theorem implRoom (n : Nd) (k : Int) (s : Tr) (d : Int) (w : World) :
    Calls Try.prog 26 #[n.val, .int .i64 k, s.val, .int .i64 d] w (BoolIs (roomB n k s d) w) := by
  have HA := Lib.hid (implSpot n k s)
  have HB := Lib.hid (Lib.hid True.intro)
  have HR := Lib.hid (show roomB n k s d = ((spotS n k s).ok && (inB d 0 1000 && decide ((spotS n k s).d ≤ d * (spotS n k s).f))) from rfl)
  have HK := Lib.hid (inB_iff d 0 1000)
  have HBD := spotS_bd n k s
  have H0 := Lib.hid ((held1 w n 44).new2 (w.heap.size + 1) (by simp) [.int .i64 s.x, .int .i64 s.y, .int .i64 s.z] 46)
  simp only [newFs, List.cons_append, List.nil_append, List.append_nil] at H0
  generalize roomB n k s d = r at *
  generalize spotS n k s = sp at *
  generalize inB d 0 1000 = b3 at *
  obtain ⟨nx, ny⟩ := n
  obtain ⟨x, y, z⟩ := s
  obtain ⟨pp, pd, pf, ok⟩ := sp
  unfold SpIs at HA
  unfold Sp.val Tr.val Nd.val at *
  simp only at H0 HA HB HR HBD
  cases ok
  · clear HBD
    go_enter Try.func26, Try.ntmps26
    go_wp2_with fail
    repeat' (first | ((first | (with_reducible refine (HA.out _).mono ?_) | (with_reducible refine (HB.out _).mono ?_) | fail); rintro e wn ⟨rfl, hb⟩; have H0 := Lib.hid (H0.out.step hb); clear hb; (try clear x0 x1 x2 x3 x4); obtain ⟨x0, x1, x2, x3, x4, _⟩ := H0.out.1; go_wp2_with fail) | fail)
    go_ret
    exact ⟨ret_bool (by rw [HR.out]; simp), H0.out.below⟩
  by_cases hb : b3 = true
  · subst hb
    obtain ⟨k1, k2⟩ := HK.out.1 rfl
    obtain ⟨p1, p2⟩ := prod_bd (p := d) (q := pf) 1000 (by omega) (by omega) (by omega) (by omega)
    have e1 : IntKind.i64.wrap (d * pf) = d * pf := IntWalk.i64_in _ (by omega)
    go_enter Try.func26, Try.ntmps26
    go_wp2_with fail
    repeat' (first | ((first | (with_reducible refine (HA.out _).mono ?_) | (with_reducible refine (HB.out _).mono ?_) | fail); rintro e wn ⟨rfl, hb⟩; have H0 := Lib.hid (H0.out.step hb); clear hb; (try clear x0 x1 x2 x3 x4); obtain ⟨x0, x1, x2, x3, x4, _⟩ := H0.out.1; go_wp2_with fail) | fail)
    all_goals
      go_ret
      exact ⟨ret_bool (by rw [HR.out, Bool.eq_iff_iff]; simp; try omega), H0.out.below⟩
  · have HF := Lib.hid hb
    obtain rfl : b3 = false := by simpa using hb
    clear hb HBD
    have HK := Lib.hid (show ¬ (0 ≤ d ∧ d ≤ 1000) from fun h => by have := HK.out.2 h; cases this)
    go_enter Try.func26, Try.ntmps26
    go_wp2_with fail
    repeat' (first | ((first | (with_reducible refine (HA.out _).mono ?_) | (with_reducible refine (HB.out _).mono ?_) | fail); rintro e wn ⟨rfl, hb⟩; have H0 := Lib.hid (H0.out.step hb); clear hb; (try clear x0 x1 x2 x3 x4); obtain ⟨x0, x1, x2, x3, x4, _⟩ := H0.out.1; go_wp2_with fail) | fail)
    all_goals
      go_ret
      exact ⟨ret_bool (by rw [HR.out]; have := HK.out; simp; try omega), H0.out.below⟩
end Go.Proofs.Ytghpbdgghliieaa
