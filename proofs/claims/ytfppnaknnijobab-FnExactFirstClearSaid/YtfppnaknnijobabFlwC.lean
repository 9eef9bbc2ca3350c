/-
  Clear places, of the program and of the model.
-/
import Derived.Test.YtfppnaknnijobabFlwI
import Derived.Test.YtfppnaknnijobabCtn
namespace Go.Proofs.Ytfppnaknnijobab
open Go.RowKit
set_option linter.unusedVariables false
set_option linter.unusedSimpArgs false

set_option maxRecDepth 100000 in
theorem implClrAt (a p n : Nd) (ba bp : Nat) (w : World) (h0 : w.cell? ⟨ba, 0, none⟩ = some (.int .i64 a.x)) (h1 : w.cell? ⟨ba, 1, none⟩ = some (.int .i64 a.y)) (h2 : w.cell? ⟨bp, 0, none⟩ = some (.int .i64 p.x)) (h3 : w.cell? ⟨bp, 1, none⟩ = some (.int .i64 p.y)) (hba : ba < w.heap.size) (hbp : bp < w.heap.size) (hw : Way64 a n) :
    Calls Try.prog 114 #[n.val, .pointer (some ⟨ba, 0, none⟩), .pointer (some ⟨bp, 0, none⟩)] w (BoolIs (covB a p n) w) := by
  have HC := Lib.hid (fun w => implCov a p n w hw)
  have H0 := Lib.hid (Held.new2 (show Held w w [(ba, 0, .int .i64 a.x), (ba, 1, .int .i64 a.y), (bp, 0, .int .i64 p.x), (bp, 1, .int .i64 p.y)] from ⟨⟨h0, h1, h2, h3, trivial⟩, ⟨hba, hba, hbp, hbp, trivial⟩, Below.refl _ _⟩) w.heap.size rfl [.int .i64 n.x, .int .i64 n.y] 82)
  simp only [newFs, List.cons_append, List.nil_append, List.append_nil] at H0
  clear h0 h1 h2 h3 hw
  generalize covB a p n = r at *
  obtain ⟨ax, ay⟩ := a
  obtain ⟨px, py⟩ := p
  obtain ⟨nx, ny⟩ := n
  unfold Nd.val at *
  simp only at H0 HC
  obtain ⟨x0, x1, x2, x3, x4, x5, _⟩ := H0.out.1
  go_enter Try.func114, Try.ntmps114
  go_wp2_with fail
  refine (HC.out _).mono ?_
  rintro e wH1 ⟨rfl, hb⟩
  have H1 := Lib.hid ((H0.out).step hb); clear hb
  try clear x0 x1 x2 x3 x4 x5
  obtain ⟨x0, x1, x2, x3, x4, x5, _⟩ := H1.out.1
  go_wp2_with fail
  go_ret
  exact ⟨rfl, H1.out.below⟩

/-- Where the first covered spot is, or that there is none. -/
def CovIs (a p : Nd) (xs : List Nd) (w : World) (e : Ending) (w' : World) : Prop :=
  ∃ i : Int, e = .returned (.int .i64 i) ∧ ((i = -1 ∧ ∀ k, k < xs.length → covB a p (atN xs k) = false) ∨ ∃ k : Nat, i = k ∧ k < xs.length ∧ covB a p (atN xs k) = true) ∧ Below w.heap.size w w'
set_option maxRecDepth 100000 in
theorem implCovIdx (a p : Nd) (xs : List Nd) (v : Value) (ba bp : Nat) (w : World) (hv : Prs w v xs) (h0 : w.cell? ⟨ba, 0, none⟩ = some (.int .i64 a.x)) (h1 : w.cell? ⟨ba, 1, none⟩ = some (.int .i64 a.y)) (h2 : w.cell? ⟨bp, 0, none⟩ = some (.int .i64 p.x)) (h3 : w.cell? ⟨bp, 1, none⟩ = some (.int .i64 p.y)) (hba : ba < w.heap.size) (hbp : bp < w.heap.size) (hw : ∀ k, k < xs.length → Way64 a (atN xs k)) :
    Calls Try.prog 126 #[v, .func (.func 114) #[] #[.pointer (some ⟨ba, 0, none⟩), .pointer (some ⟨bp, 0, none⟩)]] w (CovIs a p xs w) := by
  have HN := Lib.hid hv
  have hlen := hv.len
  obtain ⟨A, c, rfl⟩ := prs_form2 hv
  have H0 := Lib.hid (show Held w w [(ba, 0, .int .i64 a.x), (ba, 1, .int .i64 a.y), (bp, 0, .int .i64 p.x), (bp, 1, .int .i64 p.y)] from ⟨⟨h0, h1, h2, h3, trivial⟩, ⟨hba, hba, hbp, hbp, trivial⟩, Below.refl _ _⟩)
  have HW := Lib.hid hw
  clear hv h0 h1 h2 h3 hba hbp hw
  go_enter Try.func126, Try.ntmps126
  go_wp2_with fail
  go_loopw [8] (fun i wr => ∃ m : Nat, m ≤ xs.length ∧ i = .int .i64 m ∧ (∀ j, j < m → covB a p (atN xs j) = false) ∧ Held w wr [(ba, 0, .int .i64 a.x), (ba, 1, .int .i64 a.y), (bp, 0, .int .i64 p.x), (bp, 1, .int .i64 p.y)]) (fun i _ => xs.length - (intOf i).toNat)
  case atStart => exact ⟨0, Nat.zero_le _, rfl, fun j hj => by omega, H0.out⟩
  case round =>
    clear H0
    obtain ⟨m, hm, rfl, hz, hh⟩ := hrel
    have HZ := Lib.hid hz; clear hz
    have H1 := Lib.hid hh; clear hh
    have q1 : (0 : Int) ≤ m := by omega
    by_cases hlt : m < xs.length
    · obtain ⟨bb, o, c', he, hbl, hcs⟩ := prs_at2 (HN.out.step H1.out.below) hlt
      injection he with he1 he2 he3
      subst he1
      obtain ⟨p0, p1⟩ := hcs m hlt
      clear hcs he2 he3
      have HC := Lib.hid (implClrAt a p (atN xs m) ba bp wr H1.out.1.1 H1.out.1.2.1 H1.out.1.2.2.1 H1.out.1.2.2.2.1 H1.out.2.1.1 H1.out.2.1.2.2.1 (HW.out m hlt))
      have HNX := Lib.hid (fun (h : covB a p (atN xs m) = false) => (fun j (hj : j < m + 1) => (if e : j = m then e ▸ h else HZ.out j (by omega)) : ∀ j, j < m + 1 → covB a p (atN xs j) = false))
      have HYE := Lib.hid (fun (h : covB a p (atN xs m) = true) => (show ∃ k : Nat, (m : Int) = k ∧ k < xs.length ∧ covB a p (atN xs k) = true from ⟨m, rfl, hlt, h⟩))
      have q2 : (m : Int) < (xs.length : Int) := by omega
      generalize covB a p (atN xs m) = d at *
      generalize atN xs m = n at *
      obtain ⟨nx, ny⟩ := n
      unfold Nd.val at HC
      simp only at HC p0 p1
      cases d
      · have HP := Lib.hid (HNX.out rfl)
        clear HYE HNX
        go_wp2_with fail
        refine HC.out.mono ?_
        rintro e w2 ⟨rfl, hb⟩
        have H2 := Lib.hid (H1.out.step hb); clear hb
        go_wp2_with fail
        exact ⟨⟨m + 1, by omega, by go_num, HP.out, H2.out⟩, by simp [intOf]; omega⟩
      · have HP := Lib.hid (HYE.out rfl)
        clear HYE HNX
        go_wp2_with fail
        refine HC.out.mono ?_
        rintro e w2 ⟨rfl, hb⟩
        have H2 := Lib.hid (H1.out.step hb); clear hb
        go_wp2_with fail
        go_ret
        exact ⟨_, rfl, .inr HP.out, H2.out.below⟩
    · obtain rfl : m = xs.length := by omega
      go_wp2_with fail
      go_ret
      exact ⟨-1, rfl, .inl ⟨rfl, HZ.out⟩, H1.out.below⟩

theorem implCovAny (a p : Nd) (xs : List Nd) (v : Value) (ba bp : Nat) (w : World) (hv : Prs w v xs) (h0 : w.cell? ⟨ba, 0, none⟩ = some (.int .i64 a.x)) (h1 : w.cell? ⟨ba, 1, none⟩ = some (.int .i64 a.y)) (h2 : w.cell? ⟨bp, 0, none⟩ = some (.int .i64 p.x)) (h3 : w.cell? ⟨bp, 1, none⟩ = some (.int .i64 p.y)) (hba : ba < w.heap.size) (hbp : bp < w.heap.size) (hw : ∀ k, k < xs.length → Way64 a (atN xs k)) :
    Calls Try.prog 113 #[v, .func (.func 114) #[] #[.pointer (some ⟨ba, 0, none⟩), .pointer (some ⟨bp, 0, none⟩)]] w (BoolIs (!clrB a p xs) w) := by
  have HA := Lib.hid (implCovIdx a p xs v ba bp w hv h0 h1 h2 h3 hba hbp hw)
  unfold CovIs at HA
  obtain ⟨A, c, rfl⟩ := prs_form2 hv
  clear hv h0 h1 h2 h3 hw
  have HY := Lib.hid (clrB_iff a p xs)
  have HNO := Lib.hid (fun k (hk : k < xs.length) h => clrB_no (a := a) (p := p) hk h)
  have H0 := Lib.hid (Held.none_ w)
  generalize clrB a p xs = r at *
  go_enter Try.func113, Try.ntmps113
  go_wp2_with fail
  refine HA.out.mono ?_
  rintro e w1 ⟨i, rfl, hi, hb⟩
  have H1 := Lib.hid (H0.out.step hb); clear hb
  rcases hi with ⟨rfl, ha⟩ | ⟨k, rfl, hk, hf⟩
  · have HRT := Lib.hid (HY.out.2 ha); clear ha
    go_wp2_with fail
    go_ret
    exact ⟨ret_bool (by rw [HRT.out]; rfl), H1.out.below⟩
  · have HRF := Lib.hid (HNO.out k hk hf); clear hf
    have hz2 : (0 : Int) ≤ k := by omega
    go_wp2_with fail
    go_ret
    exact ⟨ret_bool (by rw [HRF.out]; rfl), H1.out.below⟩

set_option maxRecDepth 100000 in
theorem implClr (s : Nd) (xs : List Nd) (v : Value) (a p : Nd) (w : World) (hv : Prs w v xs) (hw : ∀ k, k < xs.length → Way64 a (atN xs k)) :
    Calls Try.prog 93 #[.agg #[.int .i64 s.x, .int .i64 s.y, v], a.val, p.val] w (BoolIs (clrB a p xs) w) := by
  have HN := Lib.hid hv
  have HA := Lib.hid (fun ba bp w hv h0 h1 h2 h3 hba hbp => implCovAny a p xs v ba bp w hv h0 h1 h2 h3 hba hbp hw)
  obtain ⟨A, c, rfl⟩ := prs_form2 hv
  clear hv hw
  generalize clrB a p xs = r at *
  have H0 := Lib.hid ((((Held.none_ w).new2 w.heap.size rfl [.int .i64 s.x, .int .i64 s.y, .slice A xs.length c] 75).new2 (w.heap.size + 1) (by simp) [.int .i64 a.x, .int .i64 a.y] 82).new2 (w.heap.size + 1 + 1) (by simp) [.int .i64 p.x, .int .i64 p.y] 60)
  simp only [newFs, List.cons_append, List.nil_append, List.append_nil] at H0
  obtain ⟨ax, ay⟩ := a
  obtain ⟨px, py⟩ := p
  unfold Nd.val
  simp only at H0 HA
  obtain ⟨x0, x1, x2, x3, x4, x5, x6, _⟩ := H0.out.1
  go_enter Try.func93, Try.ntmps93
  go_wp2_with fail
  refine (HA.out (w.heap.size + 1) (w.heap.size + 1 + 1) _ (HN.out.step H0.out.below) x2 x3 x0 x1 (by simp; try omega) (by simp; try omega)).mono ?_
  rintro e w1 ⟨rfl, hb⟩
  have H1 := Lib.hid (H0.out.step hb); clear hb x0 x1 x2 x3 x4 x5 x6
  go_wp2_with fail
  go_ret
  exact ⟨ret_bool (by simp), H1.out.below⟩

theorem isClr_false {s : Nd} {xs : List Nd} {a p : Nd} (h : flwB s xs = false ∨ shB p = false ∨ a.x < 0 ∨ a.y < 0 ∨ (¬ a.x ≤ s.x - p.x) ∨ ¬ a.y ≤ s.y - p.y) : isClrB s xs a p = false := by
  unfold isClrB
  rcases h with h | h | h | h | h | h
  · rw [h]; simp
  · rw [h]; simp
  · rw [show inB a.x 0 (s.x - p.x) = false from by unfold inB; rw [decide_eq_false (by omega)]; rfl]; simp
  · rw [show inB a.y 0 (s.y - p.y) = false from by unfold inB; rw [decide_eq_false (by omega)]; rfl]; simp
  · rw [show inB a.x 0 (s.x - p.x) = false from by unfold inB; rw [decide_eq_false h, Bool.and_false]]; simp
  · rw [show inB a.y 0 (s.y - p.y) = false from by unfold inB; rw [decide_eq_false h, Bool.and_false]]; simp
theorem isClr_true {s : Nd} {xs : List Nd} {a p : Nd} (h1 : flwB s xs = true) (h2 : shB p = true) (h3 : 0 ≤ a.x) (h4 : 0 ≤ a.y) (h5 : a.x ≤ s.x - p.x) (h6 : a.y ≤ s.y - p.y) : isClrB s xs a p = clrB a p xs := by
  unfold isClrB
  rw [h1, h2, (inB_iff _ _ _).2 ⟨h3, h5⟩, (inB_iff _ _ _).2 ⟨h4, h6⟩]
  simp
theorem way_flw {s : Nd} {xs : List Nd} {a : Nd} (h : flwB s xs = true) (h1 : -1000 ≤ a.x ∧ a.x ≤ 1000) (h2 : -1000 ≤ a.y ∧ a.y ≤ 1000) : ∀ k, k < xs.length → Way64 a (atN xs k) := by
  intro k hk
  have := (flw_bd h).2.2.2 k hk
  unfold Way64
  omega

set_option maxRecDepth 100000 in
theorem implIsClr (s : Nd) (xs : List Nd) (v : Value) (a p : Nd) (w : World) (hv : Prs w v xs) (hb : PrsIn xs) :
    Calls Try.prog 51 #[.agg #[.int .i64 s.x, .int .i64 s.y, v], a.val, p.val] w (BoolIs (isClrB s xs a p) w) := by
  have HN := Lib.hid hv
  have HA := Lib.hid (fun w h => implFlw s xs v w h hb)
  have HB := Lib.hid (implSheet p)
  have HC := Lib.hid (fun (h : flwB s xs = true) (h1 : -1000 ≤ a.x ∧ a.x ≤ 1000) (h2 : -1000 ≤ a.y ∧ a.y ≤ 1000) w hv => implClr s xs v a p w hv (way_flw h h1 h2))
  have HF := Lib.hid (fun h => isClr_false (s := s) (xs := xs) (a := a) (p := p) h)
  have HT := Lib.hid (fun h1 h2 h3 h4 h5 h6 => isClr_true (s := s) (xs := xs) (a := a) (p := p) h1 h2 h3 h4 h5 h6)
  have HBD := Lib.hid (fun (h1 : flwB s xs = true) (h2 : shB p = true) => And.intro (flw_bd h1) ((shB_iff p).1 h2))
  obtain ⟨A, c, rfl⟩ := prs_form2 hv
  clear hv
  generalize isClrB s xs a p = r at *
  generalize flwB s xs = d1 at *
  generalize shB p = d2 at *
  generalize clrB a p xs = q at *
  have H0 := Lib.hid ((((Held.none_ w).new2 w.heap.size rfl [.int .i64 s.x, .int .i64 s.y, .slice A xs.length c] 75).new2 (w.heap.size + 1) (by simp) [.int .i64 a.x, .int .i64 a.y] 82).new2 (w.heap.size + 1 + 1) (by simp) [.int .i64 p.x, .int .i64 p.y] 60)
  simp only [newFs, List.cons_append, List.nil_append, List.append_nil] at H0
  obtain ⟨ax, ay⟩ := a
  obtain ⟨px, py⟩ := p
  obtain ⟨sx, sy⟩ := s
  unfold Nd.val at *
  simp only at H0 HA HB HC HF HT HBD ⊢
  go_enter Try.func51, Try.ntmps51
  obtain ⟨x0, x1, x2, x3, x4, x5, x6, _⟩ := H0.out.1
  go_wp2_with fail
  refine (HA.out _ (HN.out.step H0.out.below)).mono ?_
  rintro e w1 ⟨rfl, hb1⟩
  have H1 := Lib.hid (H0.out.step hb1); clear hb1 x0 x1 x2 x3 x4 x5 x6
  obtain ⟨x0, x1, x2, x3, x4, x5, x6, _⟩ := H1.out.1
  cases d1
  · have HRB := Lib.hid (HF.out (.inl (by trivial)))
    go_wp2_with fail
    go_ret
    exact ⟨ret_bool HRB.out.symm, H1.out.below⟩
  go_wp2_with fail
  refine (HB.out _).mono ?_
  rintro e w2 ⟨rfl, hb1⟩
  have H2 := Lib.hid (H1.out.step hb1); clear hb1 x0 x1 x2 x3 x4 x5 x6
  obtain ⟨x0, x1, x2, x3, x4, x5, x6, _⟩ := H2.out.1
  cases d2
  · have HRB := Lib.hid (HF.out (.inr (.inl (by trivial))))
    go_wp2_with fail
    go_ret
    exact ⟨ret_bool HRB.out.symm, H2.out.below⟩
  by_cases h1 : ax < 0
  · have HRB := Lib.hid (HF.out (.inr (.inr (.inl h1))))
    go_wp2_with fail
    go_ret
    exact ⟨ret_bool HRB.out.symm, H2.out.below⟩
  by_cases h2 : ay < 0
  · have HRB := Lib.hid (HF.out (.inr (.inr (.inr (.inl h2)))))
    go_wp2_with fail
    go_ret
    exact ⟨ret_bool HRB.out.symm, H2.out.below⟩
  obtain ⟨⟨bx, bY, -, -⟩, bpx, bpy⟩ := HBD.out (by trivial) (by trivial)
  have e1 : IntKind.i64.wrap (sx - px) = sx - px := IntWalk.i64_in _ (by omega)
  have e2 : IntKind.i64.wrap (sy - py) = sy - py := IntWalk.i64_in _ (by omega)
  by_cases h3 : ax ≤ sx - px
  · by_cases h4 : ay ≤ sy - py
    · have HRB := Lib.hid (HT.out (by trivial) (by trivial) (by omega) (by omega) (by omega) (by omega))
      have HCC := Lib.hid (HC.out (by trivial) (by omega) (by omega))
      go_wp2_with fail
      refine (HCC.out _ (HN.out.step H2.out.below)).mono ?_
      rintro e w3 ⟨rfl, hb1⟩
      have H3 := Lib.hid (H2.out.step hb1); clear hb1 x0 x1 x2 x3 x4 x5 x6
      go_wp2_with fail
      go_ret
      exact ⟨ret_bool HRB.out.symm, H3.out.below⟩
    · have HRB := Lib.hid (HF.out (.inr (.inr (.inr (.inr (.inr (by omega)))))))
      go_wp2_with fail
      all_goals first | (exfalso; omega) | skip
      all_goals
        go_ret
        exact ⟨ret_bool (by rw [HRB.out]; try (simp; omega)), H2.out.below⟩
  · have HRB := Lib.hid (HF.out (.inr (.inr (.inr (.inr (.inl (by omega)))))))
    go_wp2_with fail
    all_goals first | (exfalso; omega) | skip
    all_goals
      go_ret
      exact ⟨ret_bool (by rw [HRB.out]; try (simp; omega)), H2.out.below⟩
end Go.Proofs.Ytfppnaknnijobab
