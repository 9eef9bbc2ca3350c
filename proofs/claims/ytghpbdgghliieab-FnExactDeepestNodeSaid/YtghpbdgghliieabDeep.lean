/-
  The deepest node, of the model and of the program.
-/
import Derived.Test.YtghpbdgghliieabWinS
import Derived.Test.YtghpbdgghliieabWinJ
import Derived.Test.YtghpbdgghliieabSpot
namespace Go.Proofs.Ytghpbdgghliieab
open Go.RowKit
set_option linter.unusedVariables false
set_option linter.unusedSimpArgs false

/-- The first one of the highest of the first n nodes. -/
def hiN (ns : List Nd) : Nat → Nat
  | 0 => 0
  | n + 1 => if (atN ns (hiN ns n)).y < (atN ns n).y then n else hiN ns n
theorem hiN_le (ns : List Nd) : ∀ n, hiN ns n ≤ n
  | 0 => Nat.le_refl _
  | n + 1 => by have := hiN_le ns n; unfold hiN; split <;> omega
def deepI (ns ls : List Nd) (k : Int) (s : Tr) : Int := if winB ns ls && (sunB s && inB k 0 1000) then ((hiN ns ns.length : Nat) : Int) else -1

set_option maxRecDepth 100000 in
theorem specDeep (ns ls : List Nd) (vn vl : Value) (k : Int) (s : Tr) (w : World) (hn : Prs w vn ns) (hl : Prs w vl ls) :
    Calls Try.prog 34 #[.agg #[vn, vl], .int .i64 k, s.val] w (IntIs (deepI ns ls k s) w) := by
  have HA := Lib.hid (fun w h1 h2 => specWin ns ls vn vl w h1 h2)
  have HB := Lib.hid (specSunOk s)
  have HC := Lib.hid (specInB k 0 1000)
  have HN := Lib.hid hn
  have HL := Lib.hid hl
  obtain ⟨A, c, rfl⟩ := prs_form2 hn
  obtain ⟨A2, c2, rfl⟩ := prs_form2 hl
  clear hn hl
  have HR := Lib.hid (show deepI ns ls k s = if winB ns ls && (sunB s && inB k 0 1000) then ((hiN ns ns.length : Nat) : Int) else -1 from rfl)
  have HLE := Lib.hid (hiN_le ns)
  have HZ := Lib.hid (show hiN ns 0 = 0 from rfl)
  have HST := Lib.hid (fun n => (show hiN ns (n + 1) = if (atN ns (hiN ns n)).y < (atN ns n).y then n else hiN ns n from rfl))
  have H0 := Lib.hid ((held_pair w (.slice A ns.length c) (.slice A2 ls.length c2) 61).new2 (w.heap.size + 1) (by simp) [.int .i64 s.x, .int .i64 s.y, .int .i64 s.z] 63)
  simp only [newFs, List.cons_append, List.nil_append, List.append_nil] at H0
  have hlen : ns.length ≤ 9223372036854775807 := HN.out.len
  generalize deepI ns ls k s = r at *
  generalize winB ns ls = b1 at *
  generalize sunB s = b2 at *
  generalize inB k 0 1000 = b3 at *
  generalize hiN ns = hi at *
  obtain ⟨x, y, z⟩ := s
  unfold Tr.val at *
  simp only at H0 HA HB HC HR
  by_cases hb : (b1 && (b2 && b3)) = true
  · obtain ⟨rfl, rfl, rfl⟩ : b1 = true ∧ b2 = true ∧ b3 = true := by simpa [Bool.and_eq_true, and_assoc] using hb
    clear hb
    go_enter Try.func34, Try.ntmps34
    go_wp2_with fail
    repeat' (first | ((first | (with_reducible refine (HA.out _ (HN.out.step H0.out.below) (HL.out.step H0.out.below)).mono ?_) | (with_reducible refine (HB.out _).mono ?_) | (with_reducible refine (HC.out _).mono ?_) | fail); rintro e wn ⟨rfl, hb⟩; have H0 := Lib.hid (H0.out.step hb); clear hb; (try clear x0 x1 x2 x3 x4); obtain ⟨x0, x1, x2, x3, x4, _⟩ := H0.out.1; go_wp2_with fail) | fail)
    go_loopw [7, 8] (fun b i wr => ∃ m : Nat, m ≤ ns.length ∧ i = .int .i64 m ∧ b = .int .i64 (hi m : Nat) ∧ Held w wr [(w.heap.size + 1, 0, .int .i64 x), (w.heap.size + 1, 1, .int .i64 y), (w.heap.size + 1, 2, .int .i64 z), (w.heap.size, 0, .slice A ns.length c), (w.heap.size, 1, .slice A2 ls.length c2)]) (fun _ i _ => ns.length - (intOf i).toNat)
    case atStart => exact ⟨0, Nat.zero_le _, rfl, by rw [HZ.out]; rfl, H0.out⟩
    case round =>
      clear H0
      obtain ⟨m, hm, rfl, rfl, hh⟩ := hrel
      have H1 := Lib.hid hh; clear hh
      obtain ⟨x0, x1, x2, x3, x4, _⟩ := H1.out.1
      by_cases hlt : m < ns.length
      · have hq := HLE.out m
        obtain ⟨bb, o, c', he, hbl, hcs⟩ := prs_at2 (HN.out.step H1.out.below) hlt
        injection he with he1 he2 he3
        subst he1
        clear he2 he3
        obtain ⟨p0, p1⟩ := hcs m hlt
        obtain ⟨q0, q1⟩ := hcs (hi m) (by omega)
        clear hcs
        have HS := Lib.hid (HST.out m)
        generalize hi m = q at *
        have hz1 : (m : Int) < (ns.length : Int) := by omega
        have hz2 : (0 : Int) ≤ m := by omega
        have hz3 : (q : Int) < (ns.length : Int) := by omega
        have hz4 : (0 : Int) ≤ q := by omega
        generalize (atN ns m).x = x1 at *
        generalize (atN ns m).y = y1 at *
        generalize (atN ns q).x = x2 at *
        generalize (atN ns q).y = y2 at *
        by_cases hy : y2 < y1
        · have HY := Lib.hid hy
          go_wp2_with fail
          go_quiet (fail)
          go_wp2_with fail
          exact ⟨⟨m + 1, by omega, by go_num, by rw [HS.out, if_pos HY.out], H1.out.drewN _⟩, by simp [intOf]; omega⟩
        · have HY := Lib.hid hy
          go_wp2_with fail
          go_quiet (fail)
          go_wp2_with fail
          exact ⟨⟨m + 1, by omega, by go_num, by rw [HS.out, if_neg (by have := HY.out; omega)], H1.out.drewN _⟩, by simp [intOf]; omega⟩
      · obtain rfl : m = ns.length := by omega
        go_wp2_with fail
        go_ret
        exact ⟨ret_int (by rw [HR.out]; rfl), H1.out.below⟩
  · have HQ := Lib.hid hb; clear hb
    cases b1 <;> cases b2 <;> cases b3
    all_goals first | (exact absurd (by rfl) HQ.out) | skip
    all_goals
      go_enter Try.func34, Try.ntmps34
      go_wp2_with fail
      repeat' (first | ((first | (with_reducible refine (HA.out _ (HN.out.step H0.out.below) (HL.out.step H0.out.below)).mono ?_) | (with_reducible refine (HB.out _).mono ?_) | (with_reducible refine (HC.out _).mono ?_) | fail); rintro e wn ⟨rfl, hb⟩; have H0 := Lib.hid (H0.out.step hb); clear hb; (try clear x0 x1 x2 x3 x4); obtain ⟨x0, x1, x2, x3, x4, _⟩ := H0.out.1; go_wp2_with fail) | fail)
      go_ret
      exact ⟨ret_int (by rw [HR.out]; simp), H0.out.below⟩

set_option maxRecDepth 100000 in
theorem implDeep (ns ls : List Nd) (vn vl : Value) (k : Int) (s : Tr) (w : World) (hn : Prs w vn ns) (hl : Prs w vl ls) :
    Calls Try.prog 37 #[.agg #[vn, vl], .int .i64 k, s.val] w (IntIs (deepI ns ls k s) w) := by
  have HA := Lib.hid (fun w h1 h2 => implWin ns ls vn vl w h1 h2)
  have HB := Lib.hid (implSun s)
  have HC := Lib.hid (implSill k)
  have HN := Lib.hid hn
  have HL := Lib.hid hl
  obtain ⟨A, c, rfl⟩ := prs_form2 hn
  obtain ⟨A2, c2, rfl⟩ := prs_form2 hl
  clear hn hl
  have HR := Lib.hid (show deepI ns ls k s = if winB ns ls && (sunB s && inB k 0 1000) then ((hiN ns ns.length : Nat) : Int) else -1 from rfl)
  have HLE := Lib.hid (hiN_le ns)
  have HZ := Lib.hid (show hiN ns 0 = 0 from rfl)
  have HST := Lib.hid (fun n => (show hiN ns (n + 1) = if (atN ns (hiN ns n)).y < (atN ns n).y then n else hiN ns n from rfl))
  have H0 := Lib.hid ((held_pair w (.slice A ns.length c) (.slice A2 ls.length c2) 61).new2 (w.heap.size + 1) (by simp) [.int .i64 s.x, .int .i64 s.y, .int .i64 s.z] 63)
  simp only [newFs, List.cons_append, List.nil_append, List.append_nil] at H0
  have hlen : ns.length ≤ 9223372036854775807 := HN.out.len
  generalize deepI ns ls k s = r at *
  generalize winB ns ls = b1 at *
  generalize sunB s = b2 at *
  generalize inB k 0 1000 = b3 at *
  generalize hiN ns = hi at *
  obtain ⟨x, y, z⟩ := s
  unfold Tr.val at *
  simp only at H0 HA HB HC HR
  by_cases hb : (b1 && (b2 && b3)) = true
  · obtain ⟨rfl, rfl, rfl⟩ : b1 = true ∧ b2 = true ∧ b3 = true := by simpa [Bool.and_eq_true, and_assoc] using hb
    clear hb
    go_enter Try.func37, Try.ntmps37
    go_wp2_with fail
    repeat' (first | ((first | (with_reducible refine (HA.out _ (HN.out.step H0.out.below) (HL.out.step H0.out.below)).mono ?_) | (with_reducible refine (HB.out _).mono ?_) | (with_reducible refine (HC.out _).mono ?_) | fail); rintro e wn ⟨rfl, hb⟩; have H0 := Lib.hid (H0.out.step hb); clear hb; (try clear x0 x1 x2 x3 x4); obtain ⟨x0, x1, x2, x3, x4, _⟩ := H0.out.1; go_wp2_with fail) | fail)
    go_loopw [7, 26] (fun b i wr => ∃ m : Nat, m ≤ ns.length ∧ i = .int .i64 m ∧ b = .int .i64 (hi m : Nat) ∧ Held w wr [(w.heap.size + 1, 0, .int .i64 x), (w.heap.size + 1, 1, .int .i64 y), (w.heap.size + 1, 2, .int .i64 z), (w.heap.size, 0, .slice A ns.length c), (w.heap.size, 1, .slice A2 ls.length c2)]) (fun _ i _ => ns.length - (intOf i).toNat)
    case atStart => exact ⟨0, Nat.zero_le _, rfl, by rw [HZ.out]; rfl, H0.out⟩
    case round =>
      clear H0
      obtain ⟨m, hm, rfl, rfl, hh⟩ := hrel
      have H1 := Lib.hid hh; clear hh
      obtain ⟨x0, x1, x2, x3, x4, _⟩ := H1.out.1
      by_cases hlt : m < ns.length
      · have hq := HLE.out m
        obtain ⟨bb, o, c', he, hbl, hcs⟩ := prs_at2 (HN.out.step H1.out.below) hlt
        injection he with he1 he2 he3
        subst he1
        clear he2 he3
        obtain ⟨p0, p1⟩ := hcs m hlt
        obtain ⟨q0, q1⟩ := hcs (hi m) (by omega)
        clear hcs
        have HS := Lib.hid (HST.out m)
        generalize hi m = q at *
        have hz1 : (m : Int) < (ns.length : Int) := by omega
        have hz2 : (0 : Int) ≤ m := by omega
        have hz3 : (q : Int) < (ns.length : Int) := by omega
        have hz4 : (0 : Int) ≤ q := by omega
        generalize (atN ns m).x = x1 at *
        generalize (atN ns m).y = y1 at *
        generalize (atN ns q).x = x2 at *
        generalize (atN ns q).y = y2 at *
        by_cases hy : y2 < y1
        · have HY := Lib.hid hy
          have H2 := Lib.hid (H1.out.new2 wr.heap.size rfl [.int .i64 x1, .int .i64 y1] 79)
          have pb : Below wr.heap.size wr (wr.alloc (.cells #[.int .i64 x1, .int .i64 y1] 79)) := (Below.refl _ _).alloc (Nat.le_refl _) _
          have p1' := ((bcell pb).1 bb _ hbl).trans p1
          have q1' := ((bcell pb).1 bb _ hbl).trans q1
          go_wp2_with fail
          clear x0   x3 x4 pb p0 p1 q0 q1
          generalize wr.alloc (.cells #[.int .i64 x1, .int .i64 y1] 79) = w9 at *
          obtain ⟨z0, z1, z2, z3, z4, z5, z6, _⟩ := H2.out.1
          go_quiet (fail)
          go_wp2_with fail
          exact ⟨⟨m + 1, by omega, by go_num, by rw [HS.out, if_pos HY.out], (H2.out.only (fun ⟨_, _, h⟩ => h) (fun ⟨_, _, h⟩ => h)).drewN _⟩, by simp [intOf]; omega⟩
        · have HY := Lib.hid hy
          have H2 := Lib.hid (H1.out.new2 wr.heap.size rfl [.int .i64 x1, .int .i64 y1] 79)
          have pb : Below wr.heap.size wr (wr.alloc (.cells #[.int .i64 x1, .int .i64 y1] 79)) := (Below.refl _ _).alloc (Nat.le_refl _) _
          have p1' := ((bcell pb).1 bb _ hbl).trans p1
          have q1' := ((bcell pb).1 bb _ hbl).trans q1
          go_wp2_with fail
          clear x0   x3 x4 pb p0 p1 q0 q1
          generalize wr.alloc (.cells #[.int .i64 x1, .int .i64 y1] 79) = w9 at *
          obtain ⟨z0, z1, z2, z3, z4, z5, z6, _⟩ := H2.out.1
          go_quiet (fail)
          go_wp2_with fail
          exact ⟨⟨m + 1, by omega, by go_num, by rw [HS.out, if_neg (by have := HY.out; omega)], (H2.out.only (fun ⟨_, _, h⟩ => h) (fun ⟨_, _, h⟩ => h)).drewN _⟩, by simp [intOf]; omega⟩
      · obtain rfl : m = ns.length := by omega
        go_wp2_with fail
        go_ret
        exact ⟨ret_int (by rw [HR.out]; rfl), H1.out.below⟩
  · have HQ := Lib.hid hb; clear hb
    cases b1 <;> cases b2 <;> cases b3
    all_goals first | (exact absurd (by rfl) HQ.out) | skip
    all_goals
      go_enter Try.func37, Try.ntmps37
      go_wp2_with fail
      repeat' (first | ((first | (with_reducible refine (HA.out _ (HN.out.step H0.out.below) (HL.out.step H0.out.below)).mono ?_) | (with_reducible refine (HB.out _).mono ?_) | (with_reducible refine (HC.out _).mono ?_) | fail); rintro e wn ⟨rfl, hb⟩; have H0 := Lib.hid (H0.out.step hb); clear hb; (try clear x0 x1 x2 x3 x4); obtain ⟨x0, x1, x2, x3, x4, _⟩ := H0.out.1; go_wp2_with fail) | fail)
      go_ret
      exact ⟨ret_int (by rw [HR.out]; simp), H0.out.below⟩

end Go.Proofs.Ytghpbdgghliieab
