/-
  LeadLength, of the model and of the program: the root of each lead's length.
-/
import Derived.Test.YtepacoacalhdcaaGreatG39
import Derived.Test.YtepacoacalhdcaaGreatG25
namespace Go.Proofs.YtepacoacalhdcaaGreat
open Go.RowKit
set_option linter.unusedVariables false
set_option linter.unusedSimpArgs false

/-- The greatest number up to n whose square is at most s. -/
def rtF (s : Int) : Nat → Nat
  | 0 => 0
  | n + 1 => if ((n : Int) + 1) * ((n : Int) + 1) ≤ s then n + 1 else rtF s n

def rt (s : Int) : Nat := rtF s 39

theorem rtF_le (s : Int) : ∀ n, rtF s n ≤ n
  | 0 => Nat.le_refl _
  | n + 1 => by have := rtF_le s n; unfold rtF; split <;> omega

theorem sq_mono {a b : Nat} (h : a ≤ b) : (a : Int) * a ≤ (b : Int) * b := by
  have := Nat.mul_le_mul h h
  exact_mod_cast this

theorem rtF_eq {s : Int} {m : Nat} (h1 : (m : Int) * m ≤ s) (h2 : s < ((m : Int) + 1) * ((m : Int) + 1)) : ∀ n, m ≤ n → rtF s n = m
  | 0, h => by
    have h3 : m = 0 := by omega
    rw [h3]; rfl
  | n + 1, h => by
    unfold rtF
    by_cases hm : m = n + 1
    · rw [if_pos (by have := h1; rw [hm] at this; exact_mod_cast this), hm]
    · have h3 := sq_mono (show m + 1 ≤ n + 1 by omega)
      have h5 : (((m + 1 : Nat) : Int)) * ((m + 1 : Nat) : Int) = ((m : Int) + 1) * ((m : Int) + 1) := by push_cast; rfl
      have h6 : (((n + 1 : Nat) : Int)) * ((n + 1 : Nat) : Int) = ((n : Int) + 1) * ((n : Int) + 1) := by push_cast; rfl
      rw [if_neg (by omega)]
      exact rtF_eq h1 h2 n (by omega)

theorem rt_eq {s : Int} {m : Nat} (h1 : (m : Int) * m ≤ s) (h2 : s < ((m : Int) + 1) * ((m : Int) + 1)) (h : m ≤ 39) : rt s = m := rtF_eq h1 h2 39 h

theorem rt_le (s : Int) : rt s ≤ 39 := rtF_le s 39

theorem sq_bd {d : Int} (h1 : -20 ≤ d) (h2 : d ≤ 20) : 0 ≤ d * d ∧ d * d ≤ 400 := by
  have e := Int.natAbs_mul_self (a := d)
  have h3 : d.natAbs ≤ 20 := by omega
  have h4 := Nat.mul_le_mul h3 h3
  omega

theorem lenSq_bd {a b : Nd} (ha : okB a = true) (hb : okB b = true) : 0 ≤ lenSq a b ∧ lenSq a b ≤ 800 := by
  unfold lenSq
  rw [ha, hb]
  unfold okB at ha hb
  simp only [Bool.and_eq_true, inB_iff] at ha hb
  obtain ⟨⟨a1, a2⟩, a3, a4⟩ := ha
  obtain ⟨⟨b1, b2⟩, b3, b4⟩ := hb
  have p := sq_bd (d := b.x - a.x) (by omega) (by omega)
  have q := sq_bd (d := b.y - a.y) (by omega) (by omega)
  simp only [Bool.and_self, if_true]
  omega

theorem fieldLL (a b : Value) (w : World) : (Instr.field 96 (.agg #[a, b]) 0).run Tryz.prog w = .ok a w := by kernel_rfl

/-- The length of the first n leads. -/
def lenR (ns ls : List Nd) : Nat → Nat
  | 0 => 0
  | n + 1 => lenR ns ls n + rt (lenSq (atI ns (atN ls n).x) (atI ns (atN ls n).y))

theorem lenR_le (ns ls : List Nd) : ∀ n, lenR ns ls n ≤ 39 * n
  | 0 => Nat.le_refl _
  | n + 1 => by
    have := lenR_le ns ls n
    have := rt_le (lenSq (atI ns (atN ls n).x) (atI ns (atN ls n).y))
    unfold lenR
    omega

def lengthI (ns ls : List Nd) : Int := if winB ns ls = true then ((lenR ns ls ls.length : Nat) : Int) else -1

theorem lead_at {ns ls : List Nd} (hw : winB ns ls = true) {m : Nat} (hm : m < ls.length) : ∃ i j : Nat, atN ls m = ⟨i, j⟩ ∧ i < ns.length ∧ j < ns.length ∧ okB (atN ns i) = true ∧ okB (atN ns j) = true ∧ lenR ns ls (m + 1) = lenR ns ls m + rt (lenSq (atN ns i) (atN ns j)) := by
  obtain ⟨i, j, e, _, h1, h2, h3, h4⟩ := leadOkB_spec (((winB_iff ns ls).1 hw).2.2 m hm).1
  refine ⟨i, j, e, h1, h2, h3, h4, ?_⟩
  rw [lenR, e]
  rfl

set_option maxRecDepth 100000 in
theorem implRoot (s : Int) (w : World) (h0 : 0 ≤ s) (h1 : s < 1600) : Calls Tryz.prog 152 #[.int .i64 s] w (IntIs (rt s) w) := by
  go_enter Tryz.func152, Tryz.ntmps152
  have HR := Lib.hid (fun m h1 h2 h => rt_eq (s := s) (m := m) h1 h2 h)
  generalize rt s = r at *
  go_wp2_with fail
  go_loopw [3] (fun i wr => ∃ m : Nat, (m : Int) * m ≤ s ∧ i = .int .i64 m ∧ wr = w) (fun i _ => 1600 - (intOf i).toNat)
  case atStart => exact ⟨0, by simpa using h0, rfl, rfl⟩
  case round =>
    obtain ⟨m, hm, rfl, rfl⟩ := hrel
    have hlt : m < 40 := by
      rcases Nat.lt_or_ge m 40 with h | h
      · exact h
      · have := sq_mono h; omega
    have hp1 := sq_mono (show 0 ≤ m + 1 by omega)
    have hp2 := sq_mono (show m + 1 ≤ 40 by omega)
    have HM := Lib.hid hm; clear hm
    obtain ⟨p, hp⟩ : ∃ p : Int, ((m : Int) + 1) * ((m : Int) + 1) = p := ⟨_, rfl⟩
    have hq0 : 0 ≤ p := by rw [← hp]; push_cast at hp1; omega
    have hq1 : p ≤ 1600 := by rw [← hp]; push_cast at hp2; omega
    have e1 : IntKind.i64.wrap ((m : Int) + 1) = (m : Int) + 1 := IntWalk.i64_in _ (by omega)
    have e2 : IntKind.i64.wrap (((m : Int) + 1) * ((m : Int) + 1)) = p := by rw [hp]; exact IntWalk.i64_in _ (by omega)
    have HP := Lib.hid hp
    clear hp hp1 hp2
    by_cases hle : p ≤ s
    · have HL := Lib.hid hle
      go_wp2_with fail
      exact ⟨⟨m + 1, by have := HL.out; rw [← HP.out] at this; push_cast; exact this, by go_num, trivial⟩, by simp [intOf]; omega⟩
    · have HL := Lib.hid hle
      have hm39 : m ≤ 39 := by omega
      go_wp2_with fail
      go_ret
      exact ⟨ret_int (by rw [HR.out m HM.out (by have := HL.out; rw [HP.out]; omega) hm39]), Below.refl _ _⟩

set_option maxRecDepth 100000 in
theorem specRoot (s : Int) (w : World) (h0 : 0 ≤ s) (h1 : s < 1600) : Calls Tryz.prog 147 #[.int .i64 s] w (IntIs (rt s) w) := by
  go_enter Tryz.func147, Tryz.ntmps147
  have HR := Lib.hid (fun m h1 h2 h => rt_eq (s := s) (m := m) h1 h2 h)
  generalize rt s = r at *
  go_wp2_with fail
  go_loopw [3] (fun i wr => ∃ m : Nat, (m : Int) * m ≤ s ∧ i = .int .i64 m ∧ wr = w) (fun i _ => 1600 - (intOf i).toNat)
  case atStart => exact ⟨0, by simpa using h0, rfl, rfl⟩
  case round =>
    obtain ⟨m, hm, rfl, rfl⟩ := hrel
    have hlt : m < 40 := by
      rcases Nat.lt_or_ge m 40 with h | h
      · exact h
      · have := sq_mono h; omega
    have hp1 := sq_mono (show 0 ≤ m + 1 by omega)
    have hp2 := sq_mono (show m + 1 ≤ 40 by omega)
    have HM := Lib.hid hm; clear hm
    obtain ⟨p, hp⟩ : ∃ p : Int, ((m : Int) + 1) * ((m : Int) + 1) = p := ⟨_, rfl⟩
    have hq0 : 0 ≤ p := by rw [← hp]; push_cast at hp1; omega
    have hq1 : p ≤ 1600 := by rw [← hp]; push_cast at hp2; omega
    have e1 : IntKind.i64.wrap ((m : Int) + 1) = (m : Int) + 1 := IntWalk.i64_in _ (by omega)
    have e2 : IntKind.i64.wrap (((m : Int) + 1) * ((m : Int) + 1)) = p := by rw [hp]; exact IntWalk.i64_in _ (by omega)
    have HP := Lib.hid hp
    clear hp hp1 hp2
    by_cases hle : p ≤ s
    · have HL := Lib.hid hle
      go_wp2_with fail
      exact ⟨⟨m + 1, by have := HL.out; rw [← HP.out] at this; push_cast; exact this, by go_num, trivial⟩, by simp [intOf]; omega⟩
    · have HL := Lib.hid hle
      have hm39 : m ≤ 39 := by omega
      go_wp2_with fail
      go_ret
      exact ⟨ret_int (by rw [HR.out m HM.out (by have := HL.out; rw [HP.out]; omega) hm39]), Below.refl _ _⟩

set_option maxRecDepth 100000 in
theorem implLeadLen (ns ls : List Nd) (vn vl : Value) (w : World) (hn : Prs w vn ns) (hl : Prs w vl ls) :
    Calls Tryz.prog 102 #[.agg #[vn, vl]] w (IntIs (lengthI ns ls) w) := by
  have HN := Lib.hid hn
  have HL := Lib.hid hl
  have hlen := hl.len
  obtain ⟨A, c, rfl⟩ := prs_form2 hn
  obtain ⟨A2, c2, rfl⟩ := prs_form2 hl
  clear hn hl
  have H0 := Lib.hid (held_pair w (.slice A ns.length c) (.slice A2 ls.length c2) 32)
  have HR := Lib.hid (show lengthI ns ls = if winB ns ls = true then ((lenR ns ls ls.length : Nat) : Int) else -1 from rfl)
  have HLE := Lib.hid (lenR_le ns ls)
  have HZ := Lib.hid (show lenR ns ls 0 = 0 from rfl)
  have HW := Lib.hid (fun w h1 h2 => implWin ns ls (.slice A ns.length c) (.slice A2 ls.length c2) w h1 h2)
  by_cases hw : winB ns ls = true
  · have h20 := ((winB_iff ns ls).1 hw).1.2
    have HLA := Lib.hid (fun m (hm : m < ls.length) => lead_at hw hm)
    rw [hw] at HW
    rw [hw] at HR
    clear hw
    have HD := Lib.hid (drawingOf_any A A2 ns.length c ls.length c2)
    unfold ValIs at HD
    have hfd := fieldLL (.slice A ns.length c) (.slice A2 ls.length c2)
    have HE := Lib.hid (fun i j w hv hi hj => implEnds2 ns (.slice A ns.length c) i j w hv hi hj)
    unfold EndsIs Nd.val at HE
    generalize lengthI ns ls = r at *
    generalize lenR ns ls = S at *
    go_enter Tryz.func102, Tryz.ntmps102
    go_wp2_with fail
    refine (HW.out _ (HN.out.step H0.out.below) (HL.out.step H0.out.below)).mono ?_
    rintro e wH1 ⟨rfl, hb⟩
    have H1 := Lib.hid ((H0.out).step hb); clear hb
    try clear x0 x1
    obtain ⟨x0, x1, _⟩ := H1.out.1
    go_wp2_with fail
    go_loopw [3, 12] (fun v i wr => ∃ m : Nat, m ≤ ls.length ∧ i = .int .i64 m ∧ v = .int .i64 (S m : Nat) ∧ Held w wr [(w.heap.size, 0, .slice A ns.length c), (w.heap.size, 1, .slice A2 ls.length c2)]) (fun _ i _ => ls.length - (intOf i).toNat)
    case atStart => exact ⟨0, Nat.zero_le _, rfl, by rw [HZ.out]; rfl, H1.out⟩
    case round =>
      clear H0 H1
      obtain ⟨m, hm, rfl, rfl, hh⟩ := hrel
      have H1 := Lib.hid hh; clear hh
      by_cases hlt : m < ls.length
      · obtain ⟨bb, o, c', he, hbl, hcs⟩ := prs_at2 (HL.out.step H1.out.below) hlt
        injection he with he1 he2 he3
        subst he1
        clear he2 he3
        obtain ⟨p0, p1⟩ := hcs m hlt
        clear hcs
        obtain ⟨i, j, e, hi, hj, oi, oj, hs⟩ := HLA.out m hlt
        rw [e] at p0 p1
        simp only at p0 p1
        have HS := Lib.hid hs
        obtain ⟨k0, k1⟩ := lenSq_bd oi oj
        have HEm := Lib.hid (fun w hv => HE.out i j w hv hi hj)
        have HQ := Lib.hid (fun w => implLen (atN ns i) (atN ns j) w)
        have HRT := Lib.hid (fun w => implRoot (lenSq (atN ns i) (atN ns j)) w k0 (by omega))
        have hle := HLE.out m
        have hrl := rt_le (lenSq (atN ns i) (atN ns j))
        unfold Nd.val at HQ
        clear hs e oi oj
        generalize rt (lenSq (atN ns i) (atN ns j)) = y at *
        generalize lenSq (atN ns i) (atN ns j) = x at *
        generalize (atN ns i).x = ix at *
        generalize (atN ns i).y = iy at *
        generalize (atN ns j).x = jx at *
        generalize (atN ns j).y = jy at *
        generalize S m = q at *
        have hz1 : (m : Int) < (ls.length : Int) := by omega
        have hz2 : (0 : Int) ≤ m := by omega
        have e1 : IntKind.i64.wrap ((q : Int) + (y : Int)) = (q : Int) + (y : Int) := IntWalk.i64_in _ (by omega)
        obtain ⟨x0, x1, _⟩ := H1.out.1
        have H2 := Lib.hid (H1.out.new2 wr.heap.size rfl [.int .i64 i, .int .i64 j] 151)
        go_wp2_with fail
        clear x0 x1 p0 p1
        have hbw := H1.out.below.size
        generalize wr.alloc (.cells #[.int .i64 i, .int .i64 j] 151) = w9 at *
        generalize wr.heap.size = g9 at *
        refine regionD (S := fun W => Held _ W [(g9, 0, .int .i64 (i)), (g9, 1, .int .i64 (j)), (w.heap.size, 0, .slice A ns.length c), (w.heap.size, 1, .slice (some ⟨bb, o, none⟩) ls.length c2)]) (by kernel_rfl) H2.out.drew ?_
        iterate 12 (refine takeT (v := ?_) rfl (by kernel_rfl) (by kernel_rfl) (by kernel_rfl) ?_ ?_; rotate_left; (first | (refine Or.inr ⟨by rfl, ?_⟩; with_reducible rfl) | (refine Or.inl ⟨by rfl, fun W hS => detRes_value (w' := W) ?_ hS⟩; obtain ⟨x0, x1, x2, x3, _⟩ := hS.1; go_simp; first | done | with_reducible rfl) | (refine Or.inl ⟨by rfl, fun W hS => ?_⟩; refine detRes_call (w' := W) (f := ?_) (args := ?_) ?_ ?_; rotate_left 2; (go_simp; (refine ⟨?_, ?_⟩ <;> with_reducible rfl)); (first | (with_reducible refine (HD.out _).mono ?_) | (with_reducible refine (HEm.out _ (HN.out.step hS.below)).mono ?_) | (with_reducible refine (HQ.out _).mono ?_) | (with_reducible refine (HRT.out _).mono ?_) | fail); (first | (rintro e wn ⟨rfl, hb⟩; refine ⟨?_, hS.step hb⟩; with_reducible rfl) | (rintro e wn ⟨rfl, rfl⟩; refine ⟨?_, hS⟩; with_reducible rfl) | fail)) | fail); (simp only [Act.put, List.setIfInBounds_toArray, List.set_cons_zero, List.set_cons_succ]))
        refine doneD (by kernel_rfl) fun wH3 HS => ?_
        have H3 := Lib.hid HS; clear HS
        try clear x0 x1 x2 x3
        obtain ⟨x0, x1, x2, x3, _⟩ := H3.out.1
        go_wp2_with fail
        exact ⟨⟨m + 1, by omega, by go_num, by rw [HS.out]; go_num, H3.out.only (fun ⟨_, _, h⟩ => h) (fun ⟨_, _, h⟩ => h)⟩, by simp [intOf]; omega⟩
      · obtain rfl : m = ls.length := by omega
        obtain ⟨x0, x1, _⟩ := H1.out.1
        go_wp2_with fail
        go_ret
        exact ⟨ret_int (by rw [HR.out]; simp), H1.out.below⟩
  · have hw2 : winB ns ls = false := by simpa using hw
    rw [hw2] at HW
    rw [hw2] at HR
    clear hw hw2
    generalize lengthI ns ls = r at *
    go_enter Tryz.func102, Tryz.ntmps102
    go_wp2_with fail
    refine (HW.out _ (HN.out.step H0.out.below) (HL.out.step H0.out.below)).mono ?_
    rintro e wH1 ⟨rfl, hb⟩
    have H1 := Lib.hid ((H0.out).step hb); clear hb
    try clear x0 x1
    obtain ⟨x0, x1, _⟩ := H1.out.1
    go_wp2_with fail
    go_ret
    exact ⟨ret_int (by rw [HR.out]; simp), H1.out.below⟩

set_option maxRecDepth 100000 in
theorem specLeadLen (ns ls : List Nd) (vn vl : Value) (w : World) (hn : Prs w vn ns) (hl : Prs w vl ls) :
    Calls Tryz.prog 98 #[.agg #[vn, vl]] w (IntIs (lengthI ns ls) w) := by
  have hlenN := hn.len
  have HN := Lib.hid hn
  have HL := Lib.hid hl
  have hlen := hl.len
  obtain ⟨A, c, rfl⟩ := prs_form2 hn
  obtain ⟨A2, c2, rfl⟩ := prs_form2 hl
  clear hn hl
  have H0 := Lib.hid (held_pair w (.slice A ns.length c) (.slice A2 ls.length c2) 32)
  have HR := Lib.hid (show lengthI ns ls = if winB ns ls = true then ((lenR ns ls ls.length : Nat) : Int) else -1 from rfl)
  have HLE := Lib.hid (lenR_le ns ls)
  have HZ := Lib.hid (show lenR ns ls 0 = 0 from rfl)
  have HW := Lib.hid (fun w h1 h2 => specWin ns ls (.slice A ns.length c) (.slice A2 ls.length c2) w h1 h2)
  by_cases hw : winB ns ls = true
  · have h20 := ((winB_iff ns ls).1 hw).1.2
    have HLA := Lib.hid (fun m (hm : m < ls.length) => lead_at hw hm)
    rw [hw] at HW
    rw [hw] at HR
    clear hw
    generalize lengthI ns ls = r at *
    generalize lenR ns ls = S at *
    go_enter Tryz.func98, Tryz.ntmps98
    go_wp2_with fail
    refine (HW.out _ (HN.out.step H0.out.below) (HL.out.step H0.out.below)).mono ?_
    rintro e wH1 ⟨rfl, hb⟩
    have H1 := Lib.hid ((H0.out).step hb); clear hb
    try clear x0 x1
    obtain ⟨x0, x1, _⟩ := H1.out.1
    go_wp2_with fail
    go_loopw [3, 4] (fun v i wr => ∃ m : Nat, m ≤ ls.length ∧ i = .int .i64 m ∧ v = .int .i64 (S m : Nat) ∧ Held w wr [(w.heap.size, 0, .slice A ns.length c), (w.heap.size, 1, .slice A2 ls.length c2)]) (fun _ i _ => ls.length - (intOf i).toNat)
    case atStart => exact ⟨0, Nat.zero_le _, rfl, by rw [HZ.out]; rfl, H1.out⟩
    case round =>
      clear H0 H1
      obtain ⟨m, hm, rfl, rfl, hh⟩ := hrel
      have H1 := Lib.hid hh; clear hh
      by_cases hlt : m < ls.length
      · obtain ⟨i, j, e, hi, hj, oi, oj, hs⟩ := HLA.out m hlt
        obtain ⟨bb, o, c', he, hbl, hcs⟩ := prs_at2 (HL.out.step H1.out.below) hlt
        injection he with he1 he2 he3
        subst he1
        clear he2 he3
        obtain ⟨p0, p1⟩ := hcs m hlt
        clear hcs
        obtain ⟨bn, on, c3, he, hbn, hcs⟩ := prs_at2 (HN.out.step H1.out.below) hi
        injection he with he1 he2 he3
        subst he1
        clear he2 he3
        obtain ⟨q0, q1⟩ := hcs i hi
        obtain ⟨q2, q3⟩ := hcs j hj
        clear hcs
        rw [e] at p0 p1
        simp only at p0 p1
        have HS := Lib.hid hs
        obtain ⟨k0, k1⟩ := lenSq_bd oi oj
        have HQ := Lib.hid (fun w => specLen (atN ns i) (atN ns j) w)
        have HRT := Lib.hid (fun w => specRoot (lenSq (atN ns i) (atN ns j)) w k0 (by omega))
        have hle := HLE.out m
        have hrl := rt_le (lenSq (atN ns i) (atN ns j))
        unfold Nd.val at HQ
        clear hs e oi oj
        generalize rt (lenSq (atN ns i) (atN ns j)) = y at *
        generalize lenSq (atN ns i) (atN ns j) = x at *
        generalize (atN ns i).x = ix at *
        generalize (atN ns i).y = iy at *
        generalize (atN ns j).x = jx at *
        generalize (atN ns j).y = jy at *
        generalize S m = q at *
        have hz1 : (m : Int) < (ls.length : Int) := by omega
        have hz2 : (0 : Int) ≤ m := by omega
        have hz3 : (i : Int) < (ns.length : Int) := by omega
        have hz4 : (0 : Int) ≤ i := by omega
        have hz5 : (j : Int) < (ns.length : Int) := by omega
        have hz6 : (0 : Int) ≤ j := by omega
        have e1 : IntKind.i64.wrap ((q : Int) + (y : Int)) = (q : Int) + (y : Int) := IntWalk.i64_in _ (by omega)
        have H2 := Lib.hid (held_plus H1.out (gs := [(bb, o + m * 2, .int .i64 (i : Int)), (bb, o + m * 2 + 1, .int .i64 (j : Int)), (bn, on + i * 2, .int .i64 ix), (bn, on + i * 2 + 1, .int .i64 iy), (bn, on + j * 2, .int .i64 jx), (bn, on + j * 2 + 1, .int .i64 jy)]) ⟨p0, p1, q0, q1, q2, q3, trivial⟩ ⟨hbl, hbl, hbn, hbn, hbn, hbn, trivial⟩)
        obtain ⟨x0, x1, _⟩ := H1.out.1
        go_wp2_with fail
        clear x0 x1 p0 p1 q0 q1 q2 q3
        refine regionD (S := fun W => Held _ W [(w.heap.size, 0, .slice (some ⟨bn, on, none⟩) ns.length c), (w.heap.size, 1, .slice (some ⟨bb, o, none⟩) ls.length c2), (bb, o + m * 2, .int .i64 (i)), (bb, o + m * 2 + 1, .int .i64 (j)), (bn, on + i * 2, .int .i64 (ix)), (bn, on + i * 2 + 1, .int .i64 (iy)), (bn, on + j * 2, .int .i64 (jx)), (bn, on + j * 2 + 1, .int .i64 (jy))]) (by kernel_rfl) H2.out.drew ?_
        iterate 25 (refine takeT (v := ?_) rfl (by kernel_rfl) (by kernel_rfl) (by kernel_rfl) ?_ ?_; rotate_left; (first | (refine Or.inr ⟨by rfl, ?_⟩; with_reducible rfl) | (refine Or.inl ⟨by rfl, fun W hS => detRes_value (w' := W) ?_ hS⟩; obtain ⟨x0, x1, x2, x3, x4, x5, x6, x7, _⟩ := hS.1; go_simp; first | done | with_reducible rfl) | (refine Or.inl ⟨by rfl, fun W hS => ?_⟩; refine detRes_call (w' := W) (f := ?_) (args := ?_) ?_ ?_; rotate_left 2; (go_simp; (refine ⟨?_, ?_⟩ <;> with_reducible rfl)); (first | (with_reducible refine (HQ.out _).mono ?_) | (with_reducible refine (HRT.out _).mono ?_) | fail); (first | (rintro e wn ⟨rfl, hb⟩; refine ⟨?_, hS.step hb⟩; with_reducible rfl) | (rintro e wn ⟨rfl, rfl⟩; refine ⟨?_, hS⟩; with_reducible rfl) | fail)) | fail); (simp only [Act.put, List.setIfInBounds_toArray, List.set_cons_zero, List.set_cons_succ]))
        refine doneD (by kernel_rfl) fun wH3 HS => ?_
        have H3 := Lib.hid HS; clear HS
        try clear x0 x1 x2 x3 x4 x5 x6 x7
        obtain ⟨x0, x1, x2, x3, x4, x5, x6, x7, _⟩ := H3.out.1
        go_wp2_with fail
        exact ⟨⟨m + 1, by omega, by go_num, by rw [HS.out]; go_num, H3.out.only (fun ⟨a, b, _⟩ => ⟨a, b, trivial⟩) (fun ⟨a, b, _⟩ => ⟨a, b, trivial⟩)⟩, by simp [intOf]; omega⟩
      · obtain rfl : m = ls.length := by omega
        obtain ⟨x0, x1, _⟩ := H1.out.1
        go_wp2_with fail
        go_ret
        exact ⟨ret_int (by rw [HR.out]; simp), H1.out.below⟩
  · have hw2 : winB ns ls = false := by simpa using hw
    rw [hw2] at HW
    rw [hw2] at HR
    clear hw hw2
    generalize lengthI ns ls = r at *
    go_enter Tryz.func98, Tryz.ntmps98
    go_wp2_with fail
    refine (HW.out _ (HN.out.step H0.out.below) (HL.out.step H0.out.below)).mono ?_
    rintro e wH1 ⟨rfl, hb⟩
    have H1 := Lib.hid ((H0.out).step hb); clear hb
    try clear x0 x1
    obtain ⟨x0, x1, _⟩ := H1.out.1
    go_wp2_with fail
    go_ret
    exact ⟨ret_int (by rw [HR.out]; simp), H1.out.below⟩
end Go.Proofs.YtepacoacalhdcaaGreat
