/-
  Several texts in one: a claim has at most 60 files.
-/
import Derived.Test.YtepacoacalhdcaaGreatG1
import Derived.Outline
import Derived.BigGuardPart

namespace Go.Proofs.YtepacoacalhdcaaGreat
open Go.RowKit
set_option linter.unusedVariables false
set_option linter.unusedSimpArgs false

/-- A slice of pairs with an element at k: its address and that pair's cells. -/
theorem prs_at {w : World} {v : Value} {xs : List Nd} (h : Prs w v xs) {k : Nat} (hk : k < xs.length) :
    ∃ (b o c : Nat), v = .slice (some ⟨b, o, none⟩) xs.length c ∧ b < w.heap.size ∧ CellsAt w b o xs := by
  obtain ⟨A, c, rfl, hl, hc, hx⟩ := h
  obtain ⟨b, o, rfl, hlt, hcs⟩ := hx (by omega)
  exact ⟨b, o, c, rfl, hlt, hcs⟩

theorem prs_form {w : World} {v : Value} {xs : List Nd} (h : Prs w v xs) : ∃ (A : Option Addr) (c : Nat), v = .slice A xs.length c := by
  obtain ⟨A, c, rfl, _⟩ := h
  exact ⟨A, c, rfl⟩

/-- A boxed lead, and two pairs of a slice. -/
theorem held_lead {w : World} {b o : Nat} {xs : List Nd} (h : CellsAt w b o xs) (hb : b < w.heap.size) {i j : Nat} (hi : i < xs.length) (hj : j < xs.length) (l : Nd) (T : TypeId) :
    Held w (w.alloc (.cells #[.int .i64 l.x, .int .i64 l.y] T)) (B1 w l ++ (P1 b o xs i ++ P1 b o xs j)) :=
  (Held.start ((P1_cs h hi).append (P1_cs h hj)) ((P1_bs hb).append (P1_bs hb))).new [.int .i64 l.x, .int .i64 l.y] T

set_option maxRecDepth 100000 in
theorem specLeadOk (xs : List Nd) (v : Value) (l : Nd) (w : World) (hv : Prs w v xs) :
    Calls Tryz.prog 179 #[v, l.val] w (BoolIs (leadOkB xs l) w) := by
  have hr : leadOkB xs l = (idxB xs.length l.x && idxB xs.length l.y && decide (l.x < l.y) && (okB (atI xs l.x) && okB (atI xs l.y)) && decide (atI xs l.x ≠ atI xs l.y)) := rfl
  have HR := Lib.hid hr; clear hr
  have hlen := hv.len
  have h1 := specIn l.x 0 ((xs.length : Int) - 1)
  have h2 := specIn l.y 0 ((xs.length : Int) - 1)
  rw [idxB_in] at h1 h2
  have HX := Lib.hid h1; clear h1
  have HY := Lib.hid h2; clear h2
  have H0 := Lib.hid (held1 w l 151)
  generalize leadOkB xs l = r at *
  by_cases hx : idxB xs.length l.x = true
  case neg =>
    rw [Bool.not_eq_true] at hx
    rw [hx] at HX HR
    clear hx
    obtain ⟨A, c, rfl⟩ := prs_form hv
    clear hv
    obtain ⟨lx, ly⟩ := l
    unfold Nd.val
    simp only at HX HY H0
    go_enter Tryz.func179, Tryz.ntmps179
    go_wp2_with fail
    refine (HX.out _).mono ?_
    rintro e w' ⟨rfl, rfl⟩
    go_wp2_with fail
    go_ret
    exact ⟨ret_bool (by rw [HR.out]; simp), H0.out.below⟩
  by_cases hy : idxB xs.length l.y = true
  case neg =>
    rw [Bool.not_eq_true] at hy
    rw [hy] at HY HR
    rw [hx] at HX
    clear hy hx
    obtain ⟨A, c, rfl⟩ := prs_form hv
    clear hv
    obtain ⟨lx, ly⟩ := l
    unfold Nd.val
    simp only at HX HY H0
    go_enter Tryz.func179, Tryz.ntmps179
    go_wp2_with fail
    refine (HX.out _).mono ?_
    rintro e w' ⟨rfl, rfl⟩
    go_wp2_with fail
    refine (HY.out _).mono ?_
    rintro e w' ⟨rfl, rfl⟩
    go_wp2_with fail
    go_ret
    exact ⟨ret_bool (by rw [HR.out]; simp), H0.out.below⟩
  rw [hx, hy] at HR
  rw [hx] at HX
  rw [hy] at HY
  rw [idxB_iff] at hx hy
  obtain ⟨lx, ly⟩ := l
  simp only at hx hy HX HY HR H0
  obtain ⟨i, rfl⟩ : ∃ i : Nat, lx = i := ⟨lx.toNat, by omega⟩
  obtain ⟨j, rfl⟩ : ∃ j : Nat, ly = j := ⟨ly.toNat, by omega⟩
  have hi : i < xs.length := by omega
  have hj : j < xs.length := by omega
  obtain ⟨b, o, c, rfl, hb, hcs⟩ := prs_at hv hi
  have HC := Lib.hid hcs; clear hv hcs
  unfold Nd.val
  by_cases hlt : i < j
  case neg =>
    have HL := Lib.hid hlt
    go_enter Tryz.func179, Tryz.ntmps179
    go_wp2_with fail
    refine (HX.out _).mono ?_
    rintro e w' ⟨rfl, rfl⟩
    go_wp2_with fail
    refine (HY.out _).mono ?_
    rintro e w' ⟨rfl, rfl⟩
    go_wp2_with fail
    go_ret
    exact ⟨ret_bool (by rw [HR.out, decide_eq_false (p := (i : Int) < j) (by omega)]; simp), H0.out.below⟩
  have hr2 : r = ((okB (atN xs i) && okB (atN xs j)) && decide (atN xs i ≠ atN xs j)) := by
    rw [HR.out, decide_eq_true (p := (i : Int) < j) (by omega), atI_nat, atI_nat]; simp
  have HR2 := Lib.hid hr2; clear hr2 HR
  have H1 := Lib.hid (held_lead HC.out hb hi hj ⟨i, j⟩ 151); clear H0 HC
  unfold P1 at H1
  have HA := Lib.hid (specNodeOk (atN xs i))
  have HB := Lib.hid (specNodeOk (atN xs j))
  have q := eqNd (atN xs i) (atN xs j)
  have g : decide (atN xs i ≠ atN xs j) = !decide (atN xs i = atN xs j) := by simp
  rw [g] at HR2
  clear g
  generalize decide (atN xs i = atN xs j) = d at *
  generalize okB (atN xs i) = ka at *
  generalize okB (atN xs j) = kb at *
  generalize atN xs i = n1 at *
  generalize atN xs j = n2 at *
  obtain ⟨ax, ay⟩ := n1
  obtain ⟨bx, by'⟩ := n2
  unfold Nd.val at HA HB
  simp only at q H1
  cases ka
  · go_enter Tryz.func179, Tryz.ntmps179
    go_wp2_with fail
    refine (HX.out _).mono ?_
    rintro e w' ⟨rfl, rfl⟩
    go_wp2_with fail
    refine (HY.out _).mono ?_
    rintro e w' ⟨rfl, rfl⟩
    go_wp2_with fail
    refine regionD (S := fun W => Held _ W [(w.heap.size, 0, .int .i64 (i)), (w.heap.size, 1, .int .i64 (j)), (b, o + i * 2, .int .i64 (ax)), (b, o + i * 2 + 1, .int .i64 (ay)), (b, o + j * 2, .int .i64 (bx)), (b, o + j * 2 + 1, .int .i64 (by'))]) (by kernel_rfl) H1.out.drew ?_
    iterate 28 (refine takeT (v := ?_) rfl (by kernel_rfl) (by kernel_rfl) (by kernel_rfl) ?_ ?_; rotate_left; (first | (refine Or.inr ⟨by rfl, ?_⟩; with_reducible rfl) | (refine Or.inl ⟨by rfl, fun W hS => detRes_value (w' := W) ?_ hS⟩; obtain ⟨x0, x1, x2, x3, x4, x5, _⟩ := hS.1; go_simp; first | done | with_reducible rfl) | (refine Or.inl ⟨by rfl, fun W hS => ?_⟩; refine detRes_call (w' := W) (f := ?_) (args := ?_) ?_ ?_; rotate_left 2; (go_simp; (refine ⟨?_, ?_⟩ <;> with_reducible rfl)); (first | (with_reducible refine (HA.out _).mono ?_) | (with_reducible refine (HB.out _).mono ?_) | fail); (first | (rintro e wn ⟨rfl, hb⟩; refine ⟨?_, hS.step hb⟩; with_reducible rfl) | (rintro e wn ⟨rfl, rfl⟩; refine ⟨?_, hS⟩; with_reducible rfl) | fail)) | fail); (simp only [Act.put, List.setIfInBounds_toArray, List.set_cons_zero, List.set_cons_succ]))
    refine doneD (by kernel_rfl) fun wH2 HS => ?_
    have H2 := Lib.hid HS; clear HS
    try clear x0 x1 x2 x3 x4 x5
    obtain ⟨x0, x1, x2, x3, x4, x5, _⟩ := H2.out.1
    go_wp2_with fail
    go_ret
    exact ⟨ret_bool (by rw [HR2.out]; simp), H2.out.below⟩
  cases kb
  · go_enter Tryz.func179, Tryz.ntmps179
    go_wp2_with fail
    refine (HX.out _).mono ?_
    rintro e w' ⟨rfl, rfl⟩
    go_wp2_with fail
    refine (HY.out _).mono ?_
    rintro e w' ⟨rfl, rfl⟩
    go_wp2_with fail
    refine regionD (S := fun W => Held _ W [(w.heap.size, 0, .int .i64 (i)), (w.heap.size, 1, .int .i64 (j)), (b, o + i * 2, .int .i64 (ax)), (b, o + i * 2 + 1, .int .i64 (ay)), (b, o + j * 2, .int .i64 (bx)), (b, o + j * 2 + 1, .int .i64 (by'))]) (by kernel_rfl) H1.out.drew ?_
    iterate 28 (refine takeT (v := ?_) rfl (by kernel_rfl) (by kernel_rfl) (by kernel_rfl) ?_ ?_; rotate_left; (first | (refine Or.inr ⟨by rfl, ?_⟩; with_reducible rfl) | (refine Or.inl ⟨by rfl, fun W hS => detRes_value (w' := W) ?_ hS⟩; obtain ⟨x0, x1, x2, x3, x4, x5, _⟩ := hS.1; go_simp; first | done | with_reducible rfl) | (refine Or.inl ⟨by rfl, fun W hS => ?_⟩; refine detRes_call (w' := W) (f := ?_) (args := ?_) ?_ ?_; rotate_left 2; (go_simp; (refine ⟨?_, ?_⟩ <;> with_reducible rfl)); (first | (with_reducible refine (HA.out _).mono ?_) | (with_reducible refine (HB.out _).mono ?_) | fail); (first | (rintro e wn ⟨rfl, hb⟩; refine ⟨?_, hS.step hb⟩; with_reducible rfl) | (rintro e wn ⟨rfl, rfl⟩; refine ⟨?_, hS⟩; with_reducible rfl) | fail)) | fail); (simp only [Act.put, List.setIfInBounds_toArray, List.set_cons_zero, List.set_cons_succ]))
    refine doneD (by kernel_rfl) fun wH2 HS => ?_
    have H2 := Lib.hid HS; clear HS
    try clear x0 x1 x2 x3 x4 x5
    obtain ⟨x0, x1, x2, x3, x4, x5, _⟩ := H2.out.1
    go_wp2_with fail
    go_ret
    exact ⟨ret_bool (by rw [HR2.out]; simp), H2.out.below⟩
  · go_enter Tryz.func179, Tryz.ntmps179
    go_wp2_with fail
    refine (HX.out _).mono ?_
    rintro e w' ⟨rfl, rfl⟩
    go_wp2_with fail
    refine (HY.out _).mono ?_
    rintro e w' ⟨rfl, rfl⟩
    go_wp2_with fail
    refine regionD (S := fun W => Held _ W [(w.heap.size, 0, .int .i64 (i)), (w.heap.size, 1, .int .i64 (j)), (b, o + i * 2, .int .i64 (ax)), (b, o + i * 2 + 1, .int .i64 (ay)), (b, o + j * 2, .int .i64 (bx)), (b, o + j * 2 + 1, .int .i64 (by'))]) (by kernel_rfl) H1.out.drew ?_
    iterate 28 (refine takeT (v := ?_) rfl (by kernel_rfl) (by kernel_rfl) (by kernel_rfl) ?_ ?_; rotate_left; (first | (refine Or.inr ⟨by rfl, ?_⟩; with_reducible rfl) | (refine Or.inl ⟨by rfl, fun W hS => detRes_value (w' := W) ?_ hS⟩; obtain ⟨x0, x1, x2, x3, x4, x5, _⟩ := hS.1; go_simp; first | done | with_reducible rfl) | (refine Or.inl ⟨by rfl, fun W hS => ?_⟩; refine detRes_call (w' := W) (f := ?_) (args := ?_) ?_ ?_; rotate_left 2; (go_simp; (refine ⟨?_, ?_⟩ <;> with_reducible rfl)); (first | (with_reducible refine (HA.out _).mono ?_) | (with_reducible refine (HB.out _).mono ?_) | fail); (first | (rintro e wn ⟨rfl, hb⟩; refine ⟨?_, hS.step hb⟩; with_reducible rfl) | (rintro e wn ⟨rfl, rfl⟩; refine ⟨?_, hS⟩; with_reducible rfl) | fail)) | fail); (simp only [Act.put, List.setIfInBounds_toArray, List.set_cons_zero, List.set_cons_succ]))
    refine doneD (by kernel_rfl) fun wH2 HS => ?_
    have H2 := Lib.hid HS; clear HS
    try clear x0 x1 x2 x3 x4 x5
    obtain ⟨x0, x1, x2, x3, x4, x5, _⟩ := H2.out.1
    go_wp2_with fail
    go_ret
    exact ⟨ret_bool (by rw [HR2.out]; simp), H2.out.below⟩

theorem specSgn (n : Int) (w : World) :
    Calls Tryz.prog 200 #[.int .i64 n] w fun e w' => e = .returned (.int .i64 (sgnI n)) ∧ w = w' := by
  have hr : sgnI n = if n < 0 then -1 else if 0 < n then 1 else 0 := rfl
  generalize sgnI n = r at *
  have HR := Lib.hid hr; clear hr
  go_enter Tryz.func200, Tryz.ntmps200
  go_wp2
  all_goals
    go_ret
    exact ⟨ret_int (by rw [HR.out]; first | (rw [if_pos (by omega)]; done) | (rw [if_neg (by omega), if_pos (by omega)]; done) | (rw [if_neg (by omega), if_neg (by omega)]; done)), rfl⟩

/-- A boxed lead, a boxed node, and two pairs of a slice. -/
theorem held_on {w : World} {b o : Nat} {xs : List Nd} (h : CellsAt w b o xs) (hb : b < w.heap.size) {i j : Nat} (hi : i < xs.length) (hj : j < xs.length) (l n : Nd) (T U : TypeId) :
    Held w ((w.alloc (.cells #[.int .i64 l.x, .int .i64 l.y] T)).alloc (.cells #[.int .i64 n.x, .int .i64 n.y] U)) (newFs (w.heap.size + 1) 0 [.int .i64 n.x, .int .i64 n.y] ++ (newFs w.heap.size 0 [.int .i64 l.x, .int .i64 l.y] ++ (P1 b o xs i ++ P1 b o xs j))) :=
  ((Held.start ((P1_cs h hi).append (P1_cs h hj)) ((P1_bs hb).append (P1_bs hb))).new2 w.heap.size rfl [.int .i64 l.x, .int .i64 l.y] T).new2 (w.heap.size + 1) (by simp) [.int .i64 n.x, .int .i64 n.y] U

theorem specOn (xs : List Nd) (v : Value) (l n : Nd) (w : World) (hv : Prs w v xs) :
    Calls Tryz.prog 181 #[v, l.val, n.val] w (BoolIs (onLeadB xs l n) w) := by
  have hr : onLeadB xs l n = (leadOkB xs l && (decide (n = atI xs l.x) || decide (n = atI xs l.y) || betweenB (atI xs l.x) (atI xs l.y) n)) := rfl
  have HR := Lib.hid hr; clear hr
  have HL := Lib.hid (fun w hv => specLeadOk xs v l w hv)
  have hlen := hv.len
  generalize onLeadB xs l n = r at *
  by_cases hk : leadOkB xs l = true
  case neg =>
    rw [Bool.not_eq_true] at hk
    rw [hk] at HL HR
    clear hk
    have H0 := Lib.hid (held2 w l n 151 115)
    have HP := Lib.hid ((hv.step (H0.out.below)))
    obtain ⟨A, c, rfl⟩ := prs_form hv
    clear hv
    obtain ⟨lx, ly⟩ := l
    obtain ⟨nx, ny⟩ := n
    unfold Nd.val at HL ⊢
    simp only at H0 HP HL
    go_enter Tryz.func181, Tryz.ntmps181
    go_wp2_with fail
    refine (HL.out _ HP.out).mono ?_
    rintro e wH1 ⟨rfl, hb⟩
    have H1 := Lib.hid ((H0.out).step hb); clear hb
    try clear x0 x1 x2 x3
    obtain ⟨x0, x1, x2, x3, _⟩ := H1.out.1
    go_wp2_with fail
    go_ret
    exact ⟨ret_bool (by rw [HR.out]; simp), H1.out.below⟩
  obtain ⟨i, j, rfl, hij, hi, hj, ki, kj⟩ := leadOkB_spec hk
  rw [hk] at HL HR
  simp only [Bool.true_and] at HR
  rw [atI_nat, atI_nat] at HR
  clear hk ki kj
  have HP0 := Lib.hid hv
  obtain ⟨b, o, c, rfl, hb, hcs⟩ := prs_at hv hi
  have H0 := Lib.hid (held_on hcs hb hi hj ⟨i, j⟩ n 151 115)
  have HP := Lib.hid (HP0.out.step (H0.out.below))
  have HBT := Lib.hid (specBetween (atN xs i) (atN xs j) n)
  have q1 := eqNd n (atN xs i)
  have q2 := eqNd n (atN xs j)
  clear hcs HP0
  clear hv
  unfold P1 at H0
  generalize decide (n = atN xs i) = d1 at *
  generalize decide (n = atN xs j) = d2 at *
  generalize betweenB (atN xs i) (atN xs j) n = bt at *
  generalize atN xs i = n1 at *
  generalize atN xs j = n2 at *
  obtain ⟨nx, ny⟩ := n
  obtain ⟨ax, ay⟩ := n1
  obtain ⟨bx, by'⟩ := n2
  unfold Nd.val at HL HBT ⊢
  simp only at H0 HP HL HBT q1 q2
  have hij1 : (i : Int) < (xs.length : Int) := by omega
  have hij2 : (j : Int) < (xs.length : Int) := by omega
  cases d1
  case true =>
    go_enter Tryz.func181, Tryz.ntmps181
    go_wp2_with fail
    refine (HL.out _ HP.out).mono ?_
    rintro e wH1 ⟨rfl, hb⟩
    have H1 := Lib.hid ((H0.out).step hb); clear hb
    try clear x0 x1 x2 x3 x4 x5 x6 x7
    obtain ⟨x0, x1, x2, x3, x4, x5, x6, x7, _⟩ := H1.out.1
    obtain ⟨y0, y1, y2, y3, y4, y5, y6, y7, _⟩ := H1.out.2.1
    go_wp2_with fail
    go_ret
    exact ⟨ret_bool (by rw [HR.out]; simp), ((H1.out.alloc _).alloc _).below⟩
  cases d2
  case true =>
    go_enter Tryz.func181, Tryz.ntmps181
    go_wp2_with fail
    refine (HL.out _ HP.out).mono ?_
    rintro e wH1 ⟨rfl, hb⟩
    have H1 := Lib.hid ((H0.out).step hb); clear hb
    try clear x0 x1 x2 x3 x4 x5 x6 x7
    obtain ⟨x0, x1, x2, x3, x4, x5, x6, x7, _⟩ := H1.out.1
    obtain ⟨y0, y1, y2, y3, y4, y5, y6, y7, _⟩ := H1.out.2.1
    go_wp2_with fail
    go_ret
    exact ⟨ret_bool (by rw [HR.out]; simp), ((H1.out.alloc _).alloc _).below⟩
  · go_enter Tryz.func181, Tryz.ntmps181
    go_wp2_with fail
    refine (HL.out _ HP.out).mono ?_
    rintro e wH1 ⟨rfl, hb⟩
    have H1 := Lib.hid ((H0.out).step hb); clear hb
    try clear x0 x1 x2 x3 x4 x5 x6 x7
    obtain ⟨x0, x1, x2, x3, x4, x5, x6, x7, _⟩ := H1.out.1
    obtain ⟨y0, y1, y2, y3, y4, y5, y6, y7, _⟩ := H1.out.2.1
    go_wp2_with fail
    refine (HBT.out _).mono ?_
    rintro e wH2 ⟨rfl, hb⟩
    have H2 := Lib.hid (((H1.out.alloc _).alloc _).step hb); clear hb
    try clear x0 x1 x2 x3 x4 x5 x6 x7
    obtain ⟨x0, x1, x2, x3, x4, x5, x6, x7, _⟩ := H2.out.1
    go_wp2_with fail
    go_ret
    exact ⟨ret_bool (by rw [HR.out]; simp), H2.out.below⟩
end Go.Proofs.YtepacoacalhdcaaGreat

namespace Go.Proofs.YtepacoacalhdcaaGreat
open Go.RowKit
set_option linter.unusedVariables false
set_option linter.unusedSimpArgs false

/-- Two boxed leads, and four pairs of a slice. -/
theorem held_two {w : World} {b o : Nat} {xs : List Nd} (h : CellsAt w b o xs) (hb : b < w.heap.size) {i j p q : Nat} (hi : i < xs.length) (hj : j < xs.length) (hp : p < xs.length) (hq : q < xs.length) (l m : Nd) (T : TypeId) :
    Held w ((w.alloc (.cells #[.int .i64 l.x, .int .i64 l.y] T)).alloc (.cells #[.int .i64 m.x, .int .i64 m.y] T)) (newFs (w.heap.size + 1) 0 [.int .i64 m.x, .int .i64 m.y] ++ (newFs w.heap.size 0 [.int .i64 l.x, .int .i64 l.y] ++ (P1 b o xs i ++ (P1 b o xs j ++ (P1 b o xs p ++ P1 b o xs q))))) :=
  ((Held.start ((P1_cs h hi).append ((P1_cs h hj).append ((P1_cs h hp).append (P1_cs h hq)))) ((P1_bs hb).append ((P1_bs hb).append ((P1_bs hb).append (P1_bs hb))))).new2 w.heap.size rfl [.int .i64 l.x, .int .i64 l.y] T).new2 (w.heap.size + 1) (by simp) [.int .i64 m.x, .int .i64 m.y] T

/-- Four nodes boxed one behind the other. -/
theorem held_four {w W : World} {fs : List (Nat × Nat × Value)} (h : Held w W fs) (a b c d : Nd) (T : TypeId) :
    Held w ((((W.alloc (.cells #[.int .i64 a.x, .int .i64 a.y] T)).alloc (.cells #[.int .i64 b.x, .int .i64 b.y] T)).alloc (.cells #[.int .i64 c.x, .int .i64 c.y] T)).alloc (.cells #[.int .i64 d.x, .int .i64 d.y] T))
      [(W.heap.size, 0, .int .i64 a.x), (W.heap.size, 1, .int .i64 a.y), (W.heap.size + 1, 0, .int .i64 b.x), (W.heap.size + 1, 1, .int .i64 b.y),
       (W.heap.size + 1 + 1, 0, .int .i64 c.x), (W.heap.size + 1 + 1, 1, .int .i64 c.y), (W.heap.size + 1 + 1 + 1, 0, .int .i64 d.x), (W.heap.size + 1 + 1 + 1, 1, .int .i64 d.y)] := by
  have k := (((h.drop.new2 W.heap.size rfl [.int .i64 a.x, .int .i64 a.y] T).new2 (W.heap.size + 1) (by simp) [.int .i64 b.x, .int .i64 b.y] T).new2 (W.heap.size + 1 + 1) (by simp) [.int .i64 c.x, .int .i64 c.y] T).new2 (W.heap.size + 1 + 1 + 1) (by simp) [.int .i64 d.x, .int .i64 d.y] T
  obtain ⟨⟨d0, d1, c0, c1, b0, b1, a0, a1, _⟩, ⟨d2, _, c2, _, b2, _, a2, _, _⟩, hb⟩ := k
  exact ⟨⟨a0, a1, b0, b1, c0, c1, d0, d1, trivial⟩, ⟨a2, a2, b2, b2, c2, c2, d2, d2, trivial⟩, hb⟩

theorem sgn_bd (n : Int) : -1 ≤ sgnI n ∧ sgnI n ≤ 1 := by unfold sgnI; split <;> (try split) <;> omega

set_option maxRecDepth 100000 in
set_option maxHeartbeats 2000000 in
theorem specCross (xs : List Nd) (v : Value) (l m : Nd) (w : World) (hv : Prs w v xs) :
    Calls Tryz.prog 180 #[v, l.val, m.val] w (BoolIs (crossB xs l m) w) := by
  have hr : crossB xs l m = (leadOkB xs l && leadOkB xs m && meetB (atI xs l.x) (atI xs l.y) (atI xs m.x) (atI xs m.y)) := rfl
  have HR := Lib.hid hr; clear hr
  have HL := Lib.hid (fun w hv => specLeadOk xs v l w hv)
  have HM := Lib.hid (fun w hv => specLeadOk xs v m w hv)
  have hlen := hv.len
  have HP0 := Lib.hid hv
  generalize crossB xs l m = r at *
  by_cases hk : leadOkB xs l = true
  case neg =>
    rw [Bool.not_eq_true] at hk
    rw [hk] at HL HR
    clear hk
    have H0 := Lib.hid (held2 w l m 151 151)
    have HP := Lib.hid (HP0.out.step (H0.out.below))
    obtain ⟨A, c, rfl⟩ := prs_form hv
    clear hv
    obtain ⟨lx, ly⟩ := l
    obtain ⟨nx, ny⟩ := m
    unfold Nd.val at HL ⊢
    simp only at H0 HP HL
    go_enter Tryz.func180, Tryz.ntmps180
    go_wp2_with fail
    refine (HL.out _ HP.out).mono ?_
    rintro e wH1 ⟨rfl, hb⟩
    have H1 := Lib.hid ((H0.out).step hb); clear hb
    try clear x0 x1 x2 x3
    obtain ⟨x0, x1, x2, x3, _⟩ := H1.out.1
    go_wp2_with fail
    go_ret
    exact ⟨ret_bool (by rw [HR.out]; simp), H1.out.below⟩
  by_cases hk2 : leadOkB xs m = true
  case neg =>
    rw [Bool.not_eq_true] at hk2
    rw [hk2] at HM HR
    rw [hk] at HL
    clear hk hk2
    have H0 := Lib.hid (held2 w l m 151 151)
    have HP := Lib.hid (HP0.out.step (H0.out.below))
    obtain ⟨A, c, rfl⟩ := prs_form hv
    clear hv
    obtain ⟨lx, ly⟩ := l
    obtain ⟨nx, ny⟩ := m
    unfold Nd.val at HL HM ⊢
    simp only at H0 HP HL HM
    go_enter Tryz.func180, Tryz.ntmps180
    go_wp2_with fail
    refine (HL.out _ HP.out).mono ?_
    rintro e wH1 ⟨rfl, hb⟩
    have H1 := Lib.hid ((H0.out).step hb); clear hb
    try clear x0 x1 x2 x3
    obtain ⟨x0, x1, x2, x3, _⟩ := H1.out.1
    go_wp2_with fail
    refine (HM.out _ (HP0.out.step H1.out.below)).mono ?_
    rintro e wH2 ⟨rfl, hb⟩
    have H2 := Lib.hid ((H1.out).step hb); clear hb
    try clear x0 x1 x2 x3
    obtain ⟨x0, x1, x2, x3, _⟩ := H2.out.1
    go_wp2_with fail
    go_ret
    exact ⟨ret_bool (by rw [HR.out]; simp), H2.out.below⟩
  obtain ⟨i, j, rfl, hij, hi, hj, ki, kj⟩ := leadOkB_spec hk
  obtain ⟨p, q, rfl, hpq, hp, hq, kp, kq⟩ := leadOkB_spec hk2
  rw [hk] at HL HR
  rw [hk2] at HM HR
  simp only [Bool.true_and, atI_nat] at HR
  clear hk hk2
  obtain ⟨b, o, c, rfl, hb, hcs⟩ := prs_at hv hi
  have H0 := Lib.hid (held_two hcs hb hi hj hp hq ⟨i, j⟩ ⟨p, q⟩ 151)
  have HP := Lib.hid (HP0.out.step (H0.out.below))
  clear hcs hv
  unfold P1 at H0
  have hm : meetB (atN xs i) (atN xs j) (atN xs p) (atN xs q) = ((betweenB (atN xs i) (atN xs j) (atN xs p) || betweenB (atN xs i) (atN xs j) (atN xs q) || betweenB (atN xs p) (atN xs q) (atN xs i) || betweenB (atN xs p) (atN xs q) (atN xs j)) ||
      (decide (atN xs i = atN xs p) && decide (atN xs j = atN xs q) || decide (atN xs i = atN xs q) && decide (atN xs j = atN xs p)) ||
      (!(decide (atN xs i = atN xs p) || decide (atN xs i = atN xs q) || decide (atN xs j = atN xs p) || decide (atN xs j = atN xs q)) &&
        (decide (sgnI (turnI (atN xs i) (atN xs j) (atN xs p)) * sgnI (turnI (atN xs i) (atN xs j) (atN xs q)) < 0) && decide (sgnI (turnI (atN xs p) (atN xs q) (atN xs i)) * sgnI (turnI (atN xs p) (atN xs q) (atN xs j)) < 0)))) := rfl
  rw [hm] at HR
  clear hm
  have HB1 := Lib.hid (specBetween (atN xs i) (atN xs j) (atN xs p))
  have HB2 := Lib.hid (specBetween (atN xs i) (atN xs j) (atN xs q))
  have HB3 := Lib.hid (specBetween (atN xs p) (atN xs q) (atN xs i))
  have HB4 := Lib.hid (specBetween (atN xs p) (atN xs q) (atN xs j))
  have HT1 := Lib.hid (fun w => specTurn (atN xs i) (atN xs j) (atN xs p) w ki kj kp)
  have HT2 := Lib.hid (fun w => specTurn (atN xs i) (atN xs j) (atN xs q) w ki kj kq)
  have HT3 := Lib.hid (fun w => specTurn (atN xs p) (atN xs q) (atN xs i) w kp kq ki)
  have HT4 := Lib.hid (fun w => specTurn (atN xs p) (atN xs q) (atN xs j) w kp kq kj)
  have q1 := eqNd (atN xs i) (atN xs p)
  have q2 := eqNd (atN xs j) (atN xs q)
  have q3 := eqNd (atN xs i) (atN xs q)
  have q4 := eqNd (atN xs j) (atN xs p)
  clear ki kj kp kq
  generalize decide (atN xs i = atN xs p) = e1 at *
  generalize decide (atN xs j = atN xs q) = e2 at *
  generalize decide (atN xs i = atN xs q) = e3 at *
  generalize decide (atN xs j = atN xs p) = e4 at *
  generalize betweenB (atN xs i) (atN xs j) (atN xs p) = b1 at *
  generalize betweenB (atN xs i) (atN xs j) (atN xs q) = b2 at *
  generalize betweenB (atN xs p) (atN xs q) (atN xs i) = b3 at *
  generalize betweenB (atN xs p) (atN xs q) (atN xs j) = b4 at *
  generalize turnI (atN xs i) (atN xs j) (atN xs p) = t1 at *
  generalize turnI (atN xs i) (atN xs j) (atN xs q) = t2 at *
  generalize turnI (atN xs p) (atN xs q) (atN xs i) = t3 at *
  generalize turnI (atN xs p) (atN xs q) (atN xs j) = t4 at *
  have HS1 := Lib.hid (specSgn t1)
  have HS2 := Lib.hid (specSgn t2)
  have HS3 := Lib.hid (specSgn t3)
  have HS4 := Lib.hid (specSgn t4)
  obtain ⟨l1, g1⟩ := sgn_bd t1
  obtain ⟨l2, g2⟩ := sgn_bd t2
  obtain ⟨l3, g3⟩ := sgn_bd t3
  obtain ⟨l4, g4⟩ := sgn_bd t4
  generalize sgnI t1 = s1 at *
  generalize sgnI t2 = s2 at *
  generalize sgnI t3 = s3 at *
  generalize sgnI t4 = s4 at *
  obtain ⟨m1, m2⟩ := prod_bd (p := s1) (q := s2) 1 (by omega) (by omega) (by omega) (by omega)
  obtain ⟨m3, m4⟩ := prod_bd (p := s3) (q := s4) 1 (by omega) (by omega) (by omega) (by omega)
  have w1 : IntKind.i64.wrap (s1 * s2) = s1 * s2 := IntWalk.i64_in _ (by omega)
  have w2 : IntKind.i64.wrap (s3 * s4) = s3 * s4 := IntWalk.i64_in _ (by omega)
  obtain ⟨z1, ez1⟩ : ∃ z, s1 * s2 = z := ⟨_, rfl⟩
  obtain ⟨z2, ez2⟩ : ∃ z, s3 * s4 = z := ⟨_, rfl⟩
  rw [ez1] at HR w1 m1 m2
  rw [ez2] at HR w2 m3 m4
  generalize atN xs i = n1 at *
  generalize atN xs j = n2 at *
  generalize atN xs p = n3 at *
  generalize atN xs q = n4 at *
  obtain ⟨ax, ay⟩ := n1
  obtain ⟨bx, by'⟩ := n2
  obtain ⟨cx, cy⟩ := n3
  obtain ⟨dx, dy⟩ := n4
  have HF := Lib.hid (fun W fs (h : Held w W fs) => held_four h ⟨ax, ay⟩ ⟨bx, by'⟩ ⟨cx, cy⟩ ⟨dx, dy⟩ 115)
  unfold Nd.val at HL HM HB1 HB2 HB3 HB4 HT1 HT2 HT3 HT4 ⊢
  simp only at H0 HP HL HM HB1 HB2 HB3 HB4 HT1 HT2 HT3 HT4 HF q1 q2 q3 q4
  have hz1 : (i : Int) < (xs.length : Int) := by omega
  have hz2 : (j : Int) < (xs.length : Int) := by omega
  have hz3 : (p : Int) < (xs.length : Int) := by omega
  have hz4 : (q : Int) < (xs.length : Int) := by omega
  cases b1
  case true =>
    go_enter Tryz.func180, Tryz.ntmps180
    go_wp2_with fail
    refine (HL.out _ HP.out).mono ?_
    rintro e wH1 ⟨rfl, hb⟩
    have H1 := Lib.hid ((H0.out).step hb); clear hb
    try clear x0 x1 x2 x3 x4 x5 x6 x7 x8 x9 x10 x11
    obtain ⟨x0, x1, x2, x3, x4, x5, x6, x7, x8, x9, x10, x11, _⟩ := H1.out.1
    go_wp2_with fail
    refine (HM.out _ (HP0.out.step H1.out.below)).mono ?_
    rintro e wH2 ⟨rfl, hb⟩
    have H2 := Lib.hid ((H1.out).step hb); clear hb
    try clear x0 x1 x2 x3 x4 x5 x6 x7 x8 x9 x10 x11
    obtain ⟨x0, x1, x2, x3, x4, x5, x6, x7, x8, x9, x10, x11, _⟩ := H2.out.1
    obtain ⟨y0, y1, y2, y3, y4, y5, y6, y7, y8, y9, y10, y11, _⟩ := H2.out.2.1
    have pz : b < wH2.heap.size + 1 ∧ b < wH2.heap.size + 1 + 1 ∧ w.heap.size < wH2.heap.size + 1 ∧ w.heap.size < wH2.heap.size + 1 + 1 ∧ w.heap.size + 1 < wH2.heap.size + 1 ∧ w.heap.size + 1 < wH2.heap.size + 1 + 1 := by refine ⟨?_, ?_, ?_, ?_, ?_, ?_⟩ <;> omega
    go_wp2_with fail
    try clear x0 x1 x2 x3 x4 x5 x6 x7 x8 x9 x10 x11
    try clear y0 y1 y2 y3 y4 y5 y6 y7 y8 y9 y10 y11
    refine (HB1.out _).mono ?_
    rintro e wH3 ⟨rfl, hb⟩
    have H3 := Lib.hid ((HF.out _ _ H2.out).step hb); clear hb
    try clear x0 x1 x2 x3 x4 x5 x6 x7
    obtain ⟨x0, x1, x2, x3, x4, x5, x6, x7, _⟩ := H3.out.1
    go_wp2_with fail
    go_ret
    exact ⟨ret_bool (by rw [HR.out]; simp), H3.out.below⟩
  cases b2
  case true =>
    go_enter Tryz.func180, Tryz.ntmps180
    go_wp2_with fail
    refine (HL.out _ HP.out).mono ?_
    rintro e wH1 ⟨rfl, hb⟩
    have H1 := Lib.hid ((H0.out).step hb); clear hb
    try clear x0 x1 x2 x3 x4 x5 x6 x7 x8 x9 x10 x11
    obtain ⟨x0, x1, x2, x3, x4, x5, x6, x7, x8, x9, x10, x11, _⟩ := H1.out.1
    go_wp2_with fail
    refine (HM.out _ (HP0.out.step H1.out.below)).mono ?_
    rintro e wH2 ⟨rfl, hb⟩
    have H2 := Lib.hid ((H1.out).step hb); clear hb
    try clear x0 x1 x2 x3 x4 x5 x6 x7 x8 x9 x10 x11
    obtain ⟨x0, x1, x2, x3, x4, x5, x6, x7, x8, x9, x10, x11, _⟩ := H2.out.1
    obtain ⟨y0, y1, y2, y3, y4, y5, y6, y7, y8, y9, y10, y11, _⟩ := H2.out.2.1
    have pz : b < wH2.heap.size + 1 ∧ b < wH2.heap.size + 1 + 1 ∧ w.heap.size < wH2.heap.size + 1 ∧ w.heap.size < wH2.heap.size + 1 + 1 ∧ w.heap.size + 1 < wH2.heap.size + 1 ∧ w.heap.size + 1 < wH2.heap.size + 1 + 1 := by refine ⟨?_, ?_, ?_, ?_, ?_, ?_⟩ <;> omega
    go_wp2_with fail
    try clear x0 x1 x2 x3 x4 x5 x6 x7 x8 x9 x10 x11
    try clear y0 y1 y2 y3 y4 y5 y6 y7 y8 y9 y10 y11
    refine (HB1.out _).mono ?_
    rintro e wH3 ⟨rfl, hb⟩
    have H3 := Lib.hid ((HF.out _ _ H2.out).step hb); clear hb
    try clear x0 x1 x2 x3 x4 x5 x6 x7
    obtain ⟨x0, x1, x2, x3, x4, x5, x6, x7, _⟩ := H3.out.1
    go_wp2_with fail
    refine (HB2.out _).mono ?_
    rintro e wH4 ⟨rfl, hb⟩
    have H4 := Lib.hid ((H3.out).step hb); clear hb
    try clear x0 x1 x2 x3 x4 x5 x6 x7
    obtain ⟨x0, x1, x2, x3, x4, x5, x6, x7, _⟩ := H4.out.1
    go_wp2_with fail
    go_ret
    exact ⟨ret_bool (by rw [HR.out]; simp), H4.out.below⟩
  cases b3
  case true =>
    go_enter Tryz.func180, Tryz.ntmps180
    go_wp2_with fail
    refine (HL.out _ HP.out).mono ?_
    rintro e wH1 ⟨rfl, hb⟩
    have H1 := Lib.hid ((H0.out).step hb); clear hb
    try clear x0 x1 x2 x3 x4 x5 x6 x7 x8 x9 x10 x11
    obtain ⟨x0, x1, x2, x3, x4, x5, x6, x7, x8, x9, x10, x11, _⟩ := H1.out.1
    go_wp2_with fail
    refine (HM.out _ (HP0.out.step H1.out.below)).mono ?_
    rintro e wH2 ⟨rfl, hb⟩
    have H2 := Lib.hid ((H1.out).step hb); clear hb
    try clear x0 x1 x2 x3 x4 x5 x6 x7 x8 x9 x10 x11
    obtain ⟨x0, x1, x2, x3, x4, x5, x6, x7, x8, x9, x10, x11, _⟩ := H2.out.1
    obtain ⟨y0, y1, y2, y3, y4, y5, y6, y7, y8, y9, y10, y11, _⟩ := H2.out.2.1
    have pz : b < wH2.heap.size + 1 ∧ b < wH2.heap.size + 1 + 1 ∧ w.heap.size < wH2.heap.size + 1 ∧ w.heap.size < wH2.heap.size + 1 + 1 ∧ w.heap.size + 1 < wH2.heap.size + 1 ∧ w.heap.size + 1 < wH2.heap.size + 1 + 1 := by refine ⟨?_, ?_, ?_, ?_, ?_, ?_⟩ <;> omega
    go_wp2_with fail
    try clear x0 x1 x2 x3 x4 x5 x6 x7 x8 x9 x10 x11
    try clear y0 y1 y2 y3 y4 y5 y6 y7 y8 y9 y10 y11
    refine (HB1.out _).mono ?_
    rintro e wH3 ⟨rfl, hb⟩
    have H3 := Lib.hid ((HF.out _ _ H2.out).step hb); clear hb
    try clear x0 x1 x2 x3 x4 x5 x6 x7
    obtain ⟨x0, x1, x2, x3, x4, x5, x6, x7, _⟩ := H3.out.1
    go_wp2_with fail
    refine (HB2.out _).mono ?_
    rintro e wH4 ⟨rfl, hb⟩
    have H4 := Lib.hid ((H3.out).step hb); clear hb
    try clear x0 x1 x2 x3 x4 x5 x6 x7
    obtain ⟨x0, x1, x2, x3, x4, x5, x6, x7, _⟩ := H4.out.1
    go_wp2_with fail
    refine (HB3.out _).mono ?_
    rintro e wH5 ⟨rfl, hb⟩
    have H5 := Lib.hid ((H4.out).step hb); clear hb
    try clear x0 x1 x2 x3 x4 x5 x6 x7
    obtain ⟨x0, x1, x2, x3, x4, x5, x6, x7, _⟩ := H5.out.1
    go_wp2_with fail
    go_ret
    exact ⟨ret_bool (by rw [HR.out]; simp), H5.out.below⟩
  cases b4
  case true =>
    go_enter Tryz.func180, Tryz.ntmps180
    go_wp2_with fail
    refine (HL.out _ HP.out).mono ?_
    rintro e wH1 ⟨rfl, hb⟩
    have H1 := Lib.hid ((H0.out).step hb); clear hb
    try clear x0 x1 x2 x3 x4 x5 x6 x7 x8 x9 x10 x11
    obtain ⟨x0, x1, x2, x3, x4, x5, x6, x7, x8, x9, x10, x11, _⟩ := H1.out.1
    go_wp2_with fail
    refine (HM.out _ (HP0.out.step H1.out.below)).mono ?_
    rintro e wH2 ⟨rfl, hb⟩
    have H2 := Lib.hid ((H1.out).step hb); clear hb
    try clear x0 x1 x2 x3 x4 x5 x6 x7 x8 x9 x10 x11
    obtain ⟨x0, x1, x2, x3, x4, x5, x6, x7, x8, x9, x10, x11, _⟩ := H2.out.1
    obtain ⟨y0, y1, y2, y3, y4, y5, y6, y7, y8, y9, y10, y11, _⟩ := H2.out.2.1
    have pz : b < wH2.heap.size + 1 ∧ b < wH2.heap.size + 1 + 1 ∧ w.heap.size < wH2.heap.size + 1 ∧ w.heap.size < wH2.heap.size + 1 + 1 ∧ w.heap.size + 1 < wH2.heap.size + 1 ∧ w.heap.size + 1 < wH2.heap.size + 1 + 1 := by refine ⟨?_, ?_, ?_, ?_, ?_, ?_⟩ <;> omega
    go_wp2_with fail
    try clear x0 x1 x2 x3 x4 x5 x6 x7 x8 x9 x10 x11
    try clear y0 y1 y2 y3 y4 y5 y6 y7 y8 y9 y10 y11
    refine (HB1.out _).mono ?_
    rintro e wH3 ⟨rfl, hb⟩
    have H3 := Lib.hid ((HF.out _ _ H2.out).step hb); clear hb
    try clear x0 x1 x2 x3 x4 x5 x6 x7
    obtain ⟨x0, x1, x2, x3, x4, x5, x6, x7, _⟩ := H3.out.1
    go_wp2_with fail
    refine (HB2.out _).mono ?_
    rintro e wH4 ⟨rfl, hb⟩
    have H4 := Lib.hid ((H3.out).step hb); clear hb
    try clear x0 x1 x2 x3 x4 x5 x6 x7
    obtain ⟨x0, x1, x2, x3, x4, x5, x6, x7, _⟩ := H4.out.1
    go_wp2_with fail
    refine (HB3.out _).mono ?_
    rintro e wH5 ⟨rfl, hb⟩
    have H5 := Lib.hid ((H4.out).step hb); clear hb
    try clear x0 x1 x2 x3 x4 x5 x6 x7
    obtain ⟨x0, x1, x2, x3, x4, x5, x6, x7, _⟩ := H5.out.1
    go_wp2_with fail
    refine (HB4.out _).mono ?_
    rintro e wH6 ⟨rfl, hb⟩
    have H6 := Lib.hid ((H5.out).step hb); clear hb
    try clear x0 x1 x2 x3 x4 x5 x6 x7
    obtain ⟨x0, x1, x2, x3, x4, x5, x6, x7, _⟩ := H6.out.1
    go_wp2_with fail
    go_ret
    exact ⟨ret_bool (by rw [HR.out]; simp), H6.out.below⟩
  by_cases hz1 : z1 < 0
  · have dz1 : decide (z1 < 0) = true := decide_eq_true hz1
    have HZ1 := Lib.hid dz1
    by_cases hz2 : z2 < 0
    · have dz2 : decide (z2 < 0) = true := decide_eq_true hz2
      have HZ2 := Lib.hid dz2
      go_enter Tryz.func180, Tryz.ntmps180
      go_wp2_with fail
      refine (HL.out _ HP.out).mono ?_
      rintro e wH1 ⟨rfl, hb⟩
      have H1 := Lib.hid ((H0.out).step hb); clear hb
      try clear x0 x1 x2 x3 x4 x5 x6 x7 x8 x9 x10 x11
      obtain ⟨x0, x1, x2, x3, x4, x5, x6, x7, x8, x9, x10, x11, _⟩ := H1.out.1
      go_wp2_with fail
      refine (HM.out _ (HP0.out.step H1.out.below)).mono ?_
      rintro e wH2 ⟨rfl, hb⟩
      have H2 := Lib.hid ((H1.out).step hb); clear hb
      try clear x0 x1 x2 x3 x4 x5 x6 x7 x8 x9 x10 x11
      obtain ⟨x0, x1, x2, x3, x4, x5, x6, x7, x8, x9, x10, x11, _⟩ := H2.out.1
      obtain ⟨y0, y1, y2, y3, y4, y5, y6, y7, y8, y9, y10, y11, _⟩ := H2.out.2.1
      have pz : b < wH2.heap.size + 1 ∧ b < wH2.heap.size + 1 + 1 ∧ w.heap.size < wH2.heap.size + 1 ∧ w.heap.size < wH2.heap.size + 1 + 1 ∧ w.heap.size + 1 < wH2.heap.size + 1 ∧ w.heap.size + 1 < wH2.heap.size + 1 + 1 := by refine ⟨?_, ?_, ?_, ?_, ?_, ?_⟩ <;> omega
      go_wp2_with fail
      try clear x0 x1 x2 x3 x4 x5 x6 x7 x8 x9 x10 x11
      try clear y0 y1 y2 y3 y4 y5 y6 y7 y8 y9 y10 y11
      refine (HB1.out _).mono ?_
      rintro e wH3 ⟨rfl, hb⟩
      have H3 := Lib.hid ((HF.out _ _ H2.out).step hb); clear hb
      try clear x0 x1 x2 x3 x4 x5 x6 x7
      obtain ⟨x0, x1, x2, x3, x4, x5, x6, x7, _⟩ := H3.out.1
      go_wp2_with fail
      refine (HB2.out _).mono ?_
      rintro e wH4 ⟨rfl, hb⟩
      have H4 := Lib.hid ((H3.out).step hb); clear hb
      try clear x0 x1 x2 x3 x4 x5 x6 x7
      obtain ⟨x0, x1, x2, x3, x4, x5, x6, x7, _⟩ := H4.out.1
      go_wp2_with fail
      refine (HB3.out _).mono ?_
      rintro e wH5 ⟨rfl, hb⟩
      have H5 := Lib.hid ((H4.out).step hb); clear hb
      try clear x0 x1 x2 x3 x4 x5 x6 x7
      obtain ⟨x0, x1, x2, x3, x4, x5, x6, x7, _⟩ := H5.out.1
      go_wp2_with fail
      refine (HB4.out _).mono ?_
      rintro e wH6 ⟨rfl, hb⟩
      have H6 := Lib.hid ((H5.out).step hb); clear hb
      try clear x0 x1 x2 x3 x4 x5 x6 x7
      obtain ⟨x0, x1, x2, x3, x4, x5, x6, x7, _⟩ := H6.out.1
      go_wp2_with fail
      any_goals (go_ret; exact ⟨ret_bool (by rw [HR.out]; simp [*]), H6.out.below⟩)
      refine regionD (S := fun W => Held _ W [(wH2.heap.size, 0, .int .i64 (ax)), (wH2.heap.size, 1, .int .i64 (ay)), (wH2.heap.size + 1, 0, .int .i64 (bx)), (wH2.heap.size + 1, 1, .int .i64 (by')), (wH2.heap.size + 1 + 1, 0, .int .i64 (cx)), (wH2.heap.size + 1 + 1, 1, .int .i64 (cy)), (wH2.heap.size + 1 + 1 + 1, 0, .int .i64 (dx)), (wH2.heap.size + 1 + 1 + 1, 1, .int .i64 (dy))]) (by kernel_rfl) H6.out.drew ?_
      iterate 27 (refine takeT (v := ?_) rfl (by kernel_rfl) (by kernel_rfl) (by kernel_rfl) ?_ ?_; rotate_left; (first | (refine Or.inr ⟨by rfl, ?_⟩; with_reducible rfl) | (refine Or.inl ⟨by rfl, fun W hS => detRes_value (w' := W) ?_ hS⟩; obtain ⟨x0, x1, x2, x3, x4, x5, x6, x7, _⟩ := hS.1; go_simp; first | done | with_reducible rfl) | (refine Or.inl ⟨by rfl, fun W hS => ?_⟩; refine detRes_call (w' := W) (f := ?_) (args := ?_) ?_ ?_; rotate_left 2; (go_simp; (refine ⟨?_, ?_⟩ <;> with_reducible rfl)); (first | (with_reducible refine (HT1.out _).mono ?_) | (with_reducible refine (HT2.out _).mono ?_) | (with_reducible refine (HT3.out _).mono ?_) | (with_reducible refine (HT4.out _).mono ?_) | (with_reducible refine (HS1.out _).mono ?_) | (with_reducible refine (HS2.out _).mono ?_) | (with_reducible refine (HS3.out _).mono ?_) | (with_reducible refine (HS4.out _).mono ?_) | fail); (first | (rintro e wn ⟨rfl, hb⟩; refine ⟨?_, hS.step hb⟩; with_reducible rfl) | (rintro e wn ⟨rfl, rfl⟩; refine ⟨?_, hS⟩; with_reducible rfl) | fail)) | fail); (simp only [Act.put, List.setIfInBounds_toArray, List.set_cons_zero, List.set_cons_succ]))
      refine doneD (by kernel_rfl) fun wH7 HS => ?_
      have H7 := Lib.hid HS; clear HS
      try clear x0 x1 x2 x3 x4 x5 x6 x7
      obtain ⟨x0, x1, x2, x3, x4, x5, x6, x7, _⟩ := H7.out.1
      go_wp2_with fail
      go_ret
      exact ⟨ret_bool (by rw [HR.out]; simp [HZ1.out, HZ2.out, *]), H7.out.below⟩
    · have dz2 : decide (z2 < 0) = false := decide_eq_false hz2
      have HZ2 := Lib.hid dz2
      go_enter Tryz.func180, Tryz.ntmps180
      go_wp2_with fail
      refine (HL.out _ HP.out).mono ?_
      rintro e wH1 ⟨rfl, hb⟩
      have H1 := Lib.hid ((H0.out).step hb); clear hb
      try clear x0 x1 x2 x3 x4 x5 x6 x7 x8 x9 x10 x11
      obtain ⟨x0, x1, x2, x3, x4, x5, x6, x7, x8, x9, x10, x11, _⟩ := H1.out.1
      go_wp2_with fail
      refine (HM.out _ (HP0.out.step H1.out.below)).mono ?_
      rintro e wH2 ⟨rfl, hb⟩
      have H2 := Lib.hid ((H1.out).step hb); clear hb
      try clear x0 x1 x2 x3 x4 x5 x6 x7 x8 x9 x10 x11
      obtain ⟨x0, x1, x2, x3, x4, x5, x6, x7, x8, x9, x10, x11, _⟩ := H2.out.1
      obtain ⟨y0, y1, y2, y3, y4, y5, y6, y7, y8, y9, y10, y11, _⟩ := H2.out.2.1
      have pz : b < wH2.heap.size + 1 ∧ b < wH2.heap.size + 1 + 1 ∧ w.heap.size < wH2.heap.size + 1 ∧ w.heap.size < wH2.heap.size + 1 + 1 ∧ w.heap.size + 1 < wH2.heap.size + 1 ∧ w.heap.size + 1 < wH2.heap.size + 1 + 1 := by refine ⟨?_, ?_, ?_, ?_, ?_, ?_⟩ <;> omega
      go_wp2_with fail
      try clear x0 x1 x2 x3 x4 x5 x6 x7 x8 x9 x10 x11
      try clear y0 y1 y2 y3 y4 y5 y6 y7 y8 y9 y10 y11
      refine (HB1.out _).mono ?_
      rintro e wH3 ⟨rfl, hb⟩
      have H3 := Lib.hid ((HF.out _ _ H2.out).step hb); clear hb
      try clear x0 x1 x2 x3 x4 x5 x6 x7
      obtain ⟨x0, x1, x2, x3, x4, x5, x6, x7, _⟩ := H3.out.1
      go_wp2_with fail
      refine (HB2.out _).mono ?_
      rintro e wH4 ⟨rfl, hb⟩
      have H4 := Lib.hid ((H3.out).step hb); clear hb
      try clear x0 x1 x2 x3 x4 x5 x6 x7
      obtain ⟨x0, x1, x2, x3, x4, x5, x6, x7, _⟩ := H4.out.1
      go_wp2_with fail
      refine (HB3.out _).mono ?_
      rintro e wH5 ⟨rfl, hb⟩
      have H5 := Lib.hid ((H4.out).step hb); clear hb
      try clear x0 x1 x2 x3 x4 x5 x6 x7
      obtain ⟨x0, x1, x2, x3, x4, x5, x6, x7, _⟩ := H5.out.1
      go_wp2_with fail
      refine (HB4.out _).mono ?_
      rintro e wH6 ⟨rfl, hb⟩
      have H6 := Lib.hid ((H5.out).step hb); clear hb
      try clear x0 x1 x2 x3 x4 x5 x6 x7
      obtain ⟨x0, x1, x2, x3, x4, x5, x6, x7, _⟩ := H6.out.1
      go_wp2_with fail
      any_goals (go_ret; exact ⟨ret_bool (by rw [HR.out]; simp [*]), H6.out.below⟩)
      refine regionD (S := fun W => Held _ W [(wH2.heap.size, 0, .int .i64 (ax)), (wH2.heap.size, 1, .int .i64 (ay)), (wH2.heap.size + 1, 0, .int .i64 (bx)), (wH2.heap.size + 1, 1, .int .i64 (by')), (wH2.heap.size + 1 + 1, 0, .int .i64 (cx)), (wH2.heap.size + 1 + 1, 1, .int .i64 (cy)), (wH2.heap.size + 1 + 1 + 1, 0, .int .i64 (dx)), (wH2.heap.size + 1 + 1 + 1, 1, .int .i64 (dy))]) (by kernel_rfl) H6.out.drew ?_
      iterate 27 (refine takeT (v := ?_) rfl (by kernel_rfl) (by kernel_rfl) (by kernel_rfl) ?_ ?_; rotate_left; (first | (refine Or.inr ⟨by rfl, ?_⟩; with_reducible rfl) | (refine Or.inl ⟨by rfl, fun W hS => detRes_value (w' := W) ?_ hS⟩; obtain ⟨x0, x1, x2, x3, x4, x5, x6, x7, _⟩ := hS.1; go_simp; first | done | with_reducible rfl) | (refine Or.inl ⟨by rfl, fun W hS => ?_⟩; refine detRes_call (w' := W) (f := ?_) (args := ?_) ?_ ?_; rotate_left 2; (go_simp; (refine ⟨?_, ?_⟩ <;> with_reducible rfl)); (first | (with_reducible refine (HT1.out _).mono ?_) | (with_reducible refine (HT2.out _).mono ?_) | (with_reducible refine (HT3.out _).mono ?_) | (with_reducible refine (HT4.out _).mono ?_) | (with_reducible refine (HS1.out _).mono ?_) | (with_reducible refine (HS2.out _).mono ?_) | (with_reducible refine (HS3.out _).mono ?_) | (with_reducible refine (HS4.out _).mono ?_) | fail); (first | (rintro e wn ⟨rfl, hb⟩; refine ⟨?_, hS.step hb⟩; with_reducible rfl) | (rintro e wn ⟨rfl, rfl⟩; refine ⟨?_, hS⟩; with_reducible rfl) | fail)) | fail); (simp only [Act.put, List.setIfInBounds_toArray, List.set_cons_zero, List.set_cons_succ]))
      refine doneD (by kernel_rfl) fun wH7 HS => ?_
      have H7 := Lib.hid HS; clear HS
      try clear x0 x1 x2 x3 x4 x5 x6 x7
      obtain ⟨x0, x1, x2, x3, x4, x5, x6, x7, _⟩ := H7.out.1
      go_wp2_with fail
      go_ret
      exact ⟨ret_bool (by rw [HR.out]; simp [HZ1.out, HZ2.out, *]), H7.out.below⟩
  · have dz1 : decide (z1 < 0) = false := decide_eq_false hz1
    have HZ1 := Lib.hid dz1
    have dz2 : decide (z2 < 0) = decide (z2 < 0) := rfl
    have HZ2 := Lib.hid dz2
    clear dz2
    go_enter Tryz.func180, Tryz.ntmps180
    go_wp2_with fail
    refine (HL.out _ HP.out).mono ?_
    rintro e wH1 ⟨rfl, hb⟩
    have H1 := Lib.hid ((H0.out).step hb); clear hb
    try clear x0 x1 x2 x3 x4 x5 x6 x7 x8 x9 x10 x11
    obtain ⟨x0, x1, x2, x3, x4, x5, x6, x7, x8, x9, x10, x11, _⟩ := H1.out.1
    go_wp2_with fail
    refine (HM.out _ (HP0.out.step H1.out.below)).mono ?_
    rintro e wH2 ⟨rfl, hb⟩
    have H2 := Lib.hid ((H1.out).step hb); clear hb
    try clear x0 x1 x2 x3 x4 x5 x6 x7 x8 x9 x10 x11
    obtain ⟨x0, x1, x2, x3, x4, x5, x6, x7, x8, x9, x10, x11, _⟩ := H2.out.1
    obtain ⟨y0, y1, y2, y3, y4, y5, y6, y7, y8, y9, y10, y11, _⟩ := H2.out.2.1
    have pz : b < wH2.heap.size + 1 ∧ b < wH2.heap.size + 1 + 1 ∧ w.heap.size < wH2.heap.size + 1 ∧ w.heap.size < wH2.heap.size + 1 + 1 ∧ w.heap.size + 1 < wH2.heap.size + 1 ∧ w.heap.size + 1 < wH2.heap.size + 1 + 1 := by refine ⟨?_, ?_, ?_, ?_, ?_, ?_⟩ <;> omega
    go_wp2_with fail
    try clear x0 x1 x2 x3 x4 x5 x6 x7 x8 x9 x10 x11
    try clear y0 y1 y2 y3 y4 y5 y6 y7 y8 y9 y10 y11
    refine (HB1.out _).mono ?_
    rintro e wH3 ⟨rfl, hb⟩
    have H3 := Lib.hid ((HF.out _ _ H2.out).step hb); clear hb
    try clear x0 x1 x2 x3 x4 x5 x6 x7
    obtain ⟨x0, x1, x2, x3, x4, x5, x6, x7, _⟩ := H3.out.1
    go_wp2_with fail
    refine (HB2.out _).mono ?_
    rintro e wH4 ⟨rfl, hb⟩
    have H4 := Lib.hid ((H3.out).step hb); clear hb
    try clear x0 x1 x2 x3 x4 x5 x6 x7
    obtain ⟨x0, x1, x2, x3, x4, x5, x6, x7, _⟩ := H4.out.1
    go_wp2_with fail
    refine (HB3.out _).mono ?_
    rintro e wH5 ⟨rfl, hb⟩
    have H5 := Lib.hid ((H4.out).step hb); clear hb
    try clear x0 x1 x2 x3 x4 x5 x6 x7
    obtain ⟨x0, x1, x2, x3, x4, x5, x6, x7, _⟩ := H5.out.1
    go_wp2_with fail
    refine (HB4.out _).mono ?_
    rintro e wH6 ⟨rfl, hb⟩
    have H6 := Lib.hid ((H5.out).step hb); clear hb
    try clear x0 x1 x2 x3 x4 x5 x6 x7
    obtain ⟨x0, x1, x2, x3, x4, x5, x6, x7, _⟩ := H6.out.1
    go_wp2_with fail
    any_goals (go_ret; exact ⟨ret_bool (by rw [HR.out]; simp [*]), H6.out.below⟩)
    refine regionD (S := fun W => Held _ W [(wH2.heap.size, 0, .int .i64 (ax)), (wH2.heap.size, 1, .int .i64 (ay)), (wH2.heap.size + 1, 0, .int .i64 (bx)), (wH2.heap.size + 1, 1, .int .i64 (by')), (wH2.heap.size + 1 + 1, 0, .int .i64 (cx)), (wH2.heap.size + 1 + 1, 1, .int .i64 (cy)), (wH2.heap.size + 1 + 1 + 1, 0, .int .i64 (dx)), (wH2.heap.size + 1 + 1 + 1, 1, .int .i64 (dy))]) (by kernel_rfl) H6.out.drew ?_
    iterate 27 (refine takeT (v := ?_) rfl (by kernel_rfl) (by kernel_rfl) (by kernel_rfl) ?_ ?_; rotate_left; (first | (refine Or.inr ⟨by rfl, ?_⟩; with_reducible rfl) | (refine Or.inl ⟨by rfl, fun W hS => detRes_value (w' := W) ?_ hS⟩; obtain ⟨x0, x1, x2, x3, x4, x5, x6, x7, _⟩ := hS.1; go_simp; first | done | with_reducible rfl) | (refine Or.inl ⟨by rfl, fun W hS => ?_⟩; refine detRes_call (w' := W) (f := ?_) (args := ?_) ?_ ?_; rotate_left 2; (go_simp; (refine ⟨?_, ?_⟩ <;> with_reducible rfl)); (first | (with_reducible refine (HT1.out _).mono ?_) | (with_reducible refine (HT2.out _).mono ?_) | (with_reducible refine (HT3.out _).mono ?_) | (with_reducible refine (HT4.out _).mono ?_) | (with_reducible refine (HS1.out _).mono ?_) | (with_reducible refine (HS2.out _).mono ?_) | (with_reducible refine (HS3.out _).mono ?_) | (with_reducible refine (HS4.out _).mono ?_) | fail); (first | (rintro e wn ⟨rfl, hb⟩; refine ⟨?_, hS.step hb⟩; with_reducible rfl) | (rintro e wn ⟨rfl, rfl⟩; refine ⟨?_, hS⟩; with_reducible rfl) | fail)) | fail); (simp only [Act.put, List.setIfInBounds_toArray, List.set_cons_zero, List.set_cons_succ]))
    refine doneD (by kernel_rfl) fun wH7 HS => ?_
    have H7 := Lib.hid HS; clear HS
    try clear x0 x1 x2 x3 x4 x5 x6 x7
    obtain ⟨x0, x1, x2, x3, x4, x5, x6, x7, _⟩ := H7.out.1
    go_wp2_with fail
    go_ret
    exact ⟨ret_bool (by rw [HR.out]; simp [HZ1.out, HZ2.out, *]), H7.out.below⟩
end Go.Proofs.YtepacoacalhdcaaGreat
