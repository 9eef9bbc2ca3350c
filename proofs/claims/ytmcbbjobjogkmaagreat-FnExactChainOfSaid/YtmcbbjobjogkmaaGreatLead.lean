/-
  What the model's functions on leads return.
-/
import Derived.Test.YtmcbbjobjogkmaaGreatG1
import Derived.Outline
import Derived.BigGuardPart
namespace Go.Proofs.YtmcbbjobjogkmaaGreat
open Go.RowKit
set_option linter.unusedVariables false
set_option linter.unusedSimpArgs false

/-- A slice of pairs with an element at k: its address and that pair's cells. -/
theorem prs_at {w : World} {v : Value} {xs : List Nd} (h : Prs w v xs) {k : Nat} (hk : k < xs.length) :
    ∃ (b o c : Nat), v = .slice (some ⟨b, o, none⟩) xs.length c ∧ b < w.heap.size ∧ CellsAt w b o xs := by
  obtain ⟨A, c, rfl, hl, hc, hx⟩ := h
  obtain ⟨b, o, rfl, hlt, hcs⟩ := hx (by omega)
  exact ⟨b, o, c, rfl, hlt, hcs⟩

theorem prs_form {w : World} {v : Value} {xs : List Nd} (h : Prs w v xs) : ∃ (A : Option Addr) (c : Nat), v = .slice A xs.length c := by
  obtain ⟨A, c, rfl, _⟩ := h
  exact ⟨A, c, rfl⟩

/-- A boxed lead, and two pairs of a slice. -/
theorem held_lead {w : World} {b o : Nat} {xs : List Nd} (h : CellsAt w b o xs) (hb : b < w.heap.size) {i j : Nat} (hi : i < xs.length) (hj : j < xs.length) (l : Nd) (T : TypeId) :
    Held w (w.alloc (.cells #[.int .i64 l.x, .int .i64 l.y] T)) (B1 w l ++ (P1 b o xs i ++ P1 b o xs j)) :=
  (Held.start ((P1_cs h hi).append (P1_cs h hj)) ((P1_bs hb).append (P1_bs hb))).new [.int .i64 l.x, .int .i64 l.y] T

set_option maxRecDepth 100000 in
theorem specLeadOk (xs : List Nd) (v : Value) (l : Nd) (w : World) (hv : Prs w v xs) :
    Calls Tryz.prog 123 #[v, l.val] w (BoolIs (leadOkB xs l) w) := by
  have hr : leadOkB xs l = (idxB xs.length l.x && idxB xs.length l.y && decide (l.x < l.y) && (okB (atI xs l.x) && okB (atI xs l.y)) && decide (atI xs l.x ≠ atI xs l.y)) := rfl
  have HR := Lib.hid hr; clear hr
  have hlen := hv.len
  have h1 := specIn l.x 0 ((xs.length : Int) - 1)
  have h2 := specIn l.y 0 ((xs.length : Int) - 1)
  rw [idxB_in] at h1 h2
  have HX := Lib.hid h1; clear h1
  have HY := Lib.hid h2; clear h2
  have H0 := Lib.hid (held1 w l 58)
  generalize leadOkB xs l = r at *
  by_cases hx : idxB xs.length l.x = true
  case neg =>
    rw [Bool.not_eq_true] at hx
    rw [hx] at HX HR
    clear hx
    obtain ⟨A, c, rfl⟩ := prs_form hv
    clear hv
    obtain ⟨lx, ly⟩ := l
    unfold Nd.val
    simp only at HX HY H0
    go_enter Tryz.func123, Tryz.ntmps123
    go_wp2_with fail
    refine (HX.out _).mono ?_
    rintro e w' ⟨rfl, rfl⟩
    go_wp2_with fail
    go_ret
    exact ⟨ret_bool (by rw [HR.out]; simp), H0.out.below⟩
  by_cases hy : idxB xs.length l.y = true
  case neg =>
    rw [Bool.not_eq_true] at hy
    rw [hy] at HY HR
    rw [hx] at HX
    clear hy hx
    obtain ⟨A, c, rfl⟩ := prs_form hv
    clear hv
    obtain ⟨lx, ly⟩ := l
    unfold Nd.val
    simp only at HX HY H0
    go_enter Tryz.func123, Tryz.ntmps123
    go_wp2_with fail
    refine (HX.out _).mono ?_
    rintro e w' ⟨rfl, rfl⟩
    go_wp2_with fail
    refine (HY.out _).mono ?_
    rintro e w' ⟨rfl, rfl⟩
    go_wp2_with fail
    go_ret
    exact ⟨ret_bool (by rw [HR.out]; simp), H0.out.below⟩
  rw [hx, hy] at HR
  rw [hx] at HX
  rw [hy] at HY
  rw [idxB_iff] at hx hy
  obtain ⟨lx, ly⟩ := l
  simp only at hx hy HX HY HR H0
  obtain ⟨i, rfl⟩ : ∃ i : Nat, lx = i := ⟨lx.toNat, by omega⟩
  obtain ⟨j, rfl⟩ : ∃ j : Nat, ly = j := ⟨ly.toNat, by omega⟩
  have hi : i < xs.length := by omega
  have hj : j < xs.length := by omega
  obtain ⟨b, o, c, rfl, hb, hcs⟩ := prs_at hv hi
  have HC := Lib.hid hcs; clear hv hcs
  unfold Nd.val
  by_cases hlt : i < j
  case neg =>
    have HL := Lib.hid hlt
    go_enter Tryz.func123, Tryz.ntmps123
    go_wp2_with fail
    refine (HX.out _).mono ?_
    rintro e w' ⟨rfl, rfl⟩
    go_wp2_with fail
    refine (HY.out _).mono ?_
    rintro e w' ⟨rfl, rfl⟩
    go_wp2_with fail
    go_ret
    exact ⟨ret_bool (by rw [HR.out, decide_eq_false (p := (i : Int) < j) (by omega)]; simp), H0.out.below⟩
  have hr2 : r = ((okB (atN xs i) && okB (atN xs j)) && decide (atN xs i ≠ atN xs j)) := by
    rw [HR.out, decide_eq_true (p := (i : Int) < j) (by omega), atI_nat, atI_nat]; simp
  have HR2 := Lib.hid hr2; clear hr2 HR
  have H1 := Lib.hid (held_lead HC.out hb hi hj ⟨i, j⟩ 58); clear H0 HC
  unfold P1 at H1
  have HA := Lib.hid (specNodeOk (atN xs i))
  have HB := Lib.hid (specNodeOk (atN xs j))
  have q := eqNd (atN xs i) (atN xs j)
  have g : decide (atN xs i ≠ atN xs j) = !decide (atN xs i = atN xs j) := by simp
  rw [g] at HR2
  clear g
  generalize decide (atN xs i = atN xs j) = d at *
  generalize okB (atN xs i) = ka at *
  generalize okB (atN xs j) = kb at *
  generalize atN xs i = n1 at *
  generalize atN xs j = n2 at *
  obtain ⟨ax, ay⟩ := n1
  obtain ⟨bx, by'⟩ := n2
  unfold Nd.val at HA HB
  simp only at q H1
  cases ka
  · go_enter Tryz.func123, Tryz.ntmps123
    go_wp2_with fail
    refine (HX.out _).mono ?_
    rintro e w' ⟨rfl, rfl⟩
    go_wp2_with fail
    refine (HY.out _).mono ?_
    rintro e w' ⟨rfl, rfl⟩
    go_wp2_with fail
    refine regionD (S := fun W => Held _ W [(w.heap.size, 0, .int .i64 (i)), (w.heap.size, 1, .int .i64 (j)), (b, o + i * 2, .int .i64 (ax)), (b, o + i * 2 + 1, .int .i64 (ay)), (b, o + j * 2, .int .i64 (bx)), (b, o + j * 2 + 1, .int .i64 (by'))]) (by kernel_rfl) H1.out.drew ?_
    iterate 28 (refine takeT (v := ?_) rfl (by kernel_rfl) (by kernel_rfl) (by kernel_rfl) ?_ ?_; rotate_left; (first | (refine Or.inr ⟨by rfl, ?_⟩; with_reducible rfl) | (refine Or.inl ⟨by rfl, fun W hS => detRes_value (w' := W) ?_ hS⟩; obtain ⟨x0, x1, x2, x3, x4, x5, _⟩ := hS.1; go_simp; first | done | with_reducible rfl) | (refine Or.inl ⟨by rfl, fun W hS => ?_⟩; refine detRes_call (w' := W) (f := ?_) (args := ?_) ?_ ?_; rotate_left 2; (go_simp; (refine ⟨?_, ?_⟩ <;> with_reducible rfl)); (first | (with_reducible refine (HA.out _).mono ?_) | (with_reducible refine (HB.out _).mono ?_) | fail); (first | (rintro e wn ⟨rfl, hb⟩; refine ⟨?_, hS.step hb⟩; with_reducible rfl) | (rintro e wn ⟨rfl, rfl⟩; refine ⟨?_, hS⟩; with_reducible rfl) | fail)) | fail); (simp only [Act.put, List.setIfInBounds_toArray, List.set_cons_zero, List.set_cons_succ]))
    refine doneD (by kernel_rfl) fun wH2 HS => ?_
    have H2 := Lib.hid HS; clear HS
    try clear x0 x1 x2 x3 x4 x5
    obtain ⟨x0, x1, x2, x3, x4, x5, _⟩ := H2.out.1
    go_wp2_with fail
    go_ret
    exact ⟨ret_bool (by rw [HR2.out]; simp), H2.out.below⟩
  cases kb
  · go_enter Tryz.func123, Tryz.ntmps123
    go_wp2_with fail
    refine (HX.out _).mono ?_
    rintro e w' ⟨rfl, rfl⟩
    go_wp2_with fail
    refine (HY.out _).mono ?_
    rintro e w' ⟨rfl, rfl⟩
    go_wp2_with fail
    refine regionD (S := fun W => Held _ W [(w.heap.size, 0, .int .i64 (i)), (w.heap.size, 1, .int .i64 (j)), (b, o + i * 2, .int .i64 (ax)), (b, o + i * 2 + 1, .int .i64 (ay)), (b, o + j * 2, .int .i64 (bx)), (b, o + j * 2 + 1, .int .i64 (by'))]) (by kernel_rfl) H1.out.drew ?_
    iterate 28 (refine takeT (v := ?_) rfl (by kernel_rfl) (by kernel_rfl) (by kernel_rfl) ?_ ?_; rotate_left; (first | (refine Or.inr ⟨by rfl, ?_⟩; with_reducible rfl) | (refine Or.inl ⟨by rfl, fun W hS => detRes_value (w' := W) ?_ hS⟩; obtain ⟨x0, x1, x2, x3, x4, x5, _⟩ := hS.1; go_simp; first | done | with_reducible rfl) | (refine Or.inl ⟨by rfl, fun W hS => ?_⟩; refine detRes_call (w' := W) (f := ?_) (args := ?_) ?_ ?_; rotate_left 2; (go_simp; (refine ⟨?_, ?_⟩ <;> with_reducible rfl)); (first | (with_reducible refine (HA.out _).mono ?_) | (with_reducible refine (HB.out _).mono ?_) | fail); (first | (rintro e wn ⟨rfl, hb⟩; refine ⟨?_, hS.step hb⟩; with_reducible rfl) | (rintro e wn ⟨rfl, rfl⟩; refine ⟨?_, hS⟩; with_reducible rfl) | fail)) | fail); (simp only [Act.put, List.setIfInBounds_toArray, List.set_cons_zero, List.set_cons_succ]))
    refine doneD (by kernel_rfl) fun wH2 HS => ?_
    have H2 := Lib.hid HS; clear HS
    try clear x0 x1 x2 x3 x4 x5
    obtain ⟨x0, x1, x2, x3, x4, x5, _⟩ := H2.out.1
    go_wp2_with fail
    go_ret
    exact ⟨ret_bool (by rw [HR2.out]; simp), H2.out.below⟩
  · go_enter Tryz.func123, Tryz.ntmps123
    go_wp2_with fail
    refine (HX.out _).mono ?_
    rintro e w' ⟨rfl, rfl⟩
    go_wp2_with fail
    refine (HY.out _).mono ?_
    rintro e w' ⟨rfl, rfl⟩
    go_wp2_with fail
    refine regionD (S := fun W => Held _ W [(w.heap.size, 0, .int .i64 (i)), (w.heap.size, 1, .int .i64 (j)), (b, o + i * 2, .int .i64 (ax)), (b, o + i * 2 + 1, .int .i64 (ay)), (b, o + j * 2, .int .i64 (bx)), (b, o + j * 2 + 1, .int .i64 (by'))]) (by kernel_rfl) H1.out.drew ?_
    iterate 28 (refine takeT (v := ?_) rfl (by kernel_rfl) (by kernel_rfl) (by kernel_rfl) ?_ ?_; rotate_left; (first | (refine Or.inr ⟨by rfl, ?_⟩; with_reducible rfl) | (refine Or.inl ⟨by rfl, fun W hS => detRes_value (w' := W) ?_ hS⟩; obtain ⟨x0, x1, x2, x3, x4, x5, _⟩ := hS.1; go_simp; first | done | with_reducible rfl) | (refine Or.inl ⟨by rfl, fun W hS => ?_⟩; refine detRes_call (w' := W) (f := ?_) (args := ?_) ?_ ?_; rotate_left 2; (go_simp; (refine ⟨?_, ?_⟩ <;> with_reducible rfl)); (first | (with_reducible refine (HA.out _).mono ?_) | (with_reducible refine (HB.out _).mono ?_) | fail); (first | (rintro e wn ⟨rfl, hb⟩; refine ⟨?_, hS.step hb⟩; with_reducible rfl) | (rintro e wn ⟨rfl, rfl⟩; refine ⟨?_, hS⟩; with_reducible rfl) | fail)) | fail); (simp only [Act.put, List.setIfInBounds_toArray, List.set_cons_zero, List.set_cons_succ]))
    refine doneD (by kernel_rfl) fun wH2 HS => ?_
    have H2 := Lib.hid HS; clear HS
    try clear x0 x1 x2 x3 x4 x5
    obtain ⟨x0, x1, x2, x3, x4, x5, _⟩ := H2.out.1
    go_wp2_with fail
    go_ret
    exact ⟨ret_bool (by rw [HR2.out]; simp), H2.out.below⟩

theorem specSgn (n : Int) (w : World) :
    Calls Tryz.prog 141 #[.int .i64 n] w fun e w' => e = .returned (.int .i64 (sgnI n)) ∧ w = w' := by
  have hr : sgnI n = if n < 0 then -1 else if 0 < n then 1 else 0 := rfl
  generalize sgnI n = r at *
  have HR := Lib.hid hr; clear hr
  go_enter Tryz.func141, Tryz.ntmps141
  go_wp2
  all_goals
    go_ret
    exact ⟨ret_int (by rw [HR.out]; first | (rw [if_pos (by omega)]; done) | (rw [if_neg (by omega), if_pos (by omega)]; done) | (rw [if_neg (by omega), if_neg (by omega)]; done)), rfl⟩

/-- A boxed lead, a boxed node, and two pairs of a slice. -/
theorem held_on {w : World} {b o : Nat} {xs : List Nd} (h : CellsAt w b o xs) (hb : b < w.heap.size) {i j : Nat} (hi : i < xs.length) (hj : j < xs.length) (l n : Nd) (T U : TypeId) :
    Held w ((w.alloc (.cells #[.int .i64 l.x, .int .i64 l.y] T)).alloc (.cells #[.int .i64 n.x, .int .i64 n.y] U)) (newFs (w.heap.size + 1) 0 [.int .i64 n.x, .int .i64 n.y] ++ (newFs w.heap.size 0 [.int .i64 l.x, .int .i64 l.y] ++ (P1 b o xs i ++ P1 b o xs j))) :=
  ((Held.start ((P1_cs h hi).append (P1_cs h hj)) ((P1_bs hb).append (P1_bs hb))).new2 w.heap.size rfl [.int .i64 l.x, .int .i64 l.y] T).new2 (w.heap.size + 1) (by simp) [.int .i64 n.x, .int .i64 n.y] U

theorem specOn (xs : List Nd) (v : Value) (l n : Nd) (w : World) (hv : Prs w v xs) :
    Calls Tryz.prog 125 #[v, l.val, n.val] w (BoolIs (onLeadB xs l n) w) := by
  have hr : onLeadB xs l n = (leadOkB xs l && (decide (n = atI xs l.x) || decide (n = atI xs l.y) || betweenB (atI xs l.x) (atI xs l.y) n)) := rfl
  have HR := Lib.hid hr; clear hr
  have HL := Lib.hid (fun w hv => specLeadOk xs v l w hv)
  have hlen := hv.len
  generalize onLeadB xs l n = r at *
  by_cases hk : leadOkB xs l = true
  case neg =>
    rw [Bool.not_eq_true] at hk
    rw [hk] at HL HR
    clear hk
    have H0 := Lib.hid (held2 w l n 58 75)
    have HP := Lib.hid ((hv.step (H0.out.below)))
    obtain ⟨A, c, rfl⟩ := prs_form hv
    clear hv
    obtain ⟨lx, ly⟩ := l
    obtain ⟨nx, ny⟩ := n
    unfold Nd.val at HL ⊢
    simp only at H0 HP HL
    go_enter Tryz.func125, Tryz.ntmps125
    go_wp2_with fail
    refine (HL.out _ HP.out).mono ?_
    rintro e wH1 ⟨rfl, hb⟩
    have H1 := Lib.hid ((H0.out).step hb); clear hb
    try clear x0 x1 x2 x3
    obtain ⟨x0, x1, x2, x3, _⟩ := H1.out.1
    go_wp2_with fail
    go_ret
    exact ⟨ret_bool (by rw [HR.out]; simp), H1.out.below⟩
  obtain ⟨i, j, rfl, hij, hi, hj, ki, kj⟩ := leadOkB_spec hk
  rw [hk] at HL HR
  simp only [Bool.true_and] at HR
  rw [atI_nat, atI_nat] at HR
  clear hk ki kj
  have HP0 := Lib.hid hv
  obtain ⟨b, o, c, rfl, hb, hcs⟩ := prs_at hv hi
  have H0 := Lib.hid (held_on hcs hb hi hj ⟨i, j⟩ n 58 75)
  have HP := Lib.hid (HP0.out.step (H0.out.below))
  have HBT := Lib.hid (specBetween (atN xs i) (atN xs j) n)
  have q1 := eqNd n (atN xs i)
  have q2 := eqNd n (atN xs j)
  clear hcs HP0
  clear hv
  unfold P1 at H0
  generalize decide (n = atN xs i) = d1 at *
  generalize decide (n = atN xs j) = d2 at *
  generalize betweenB (atN xs i) (atN xs j) n = bt at *
  generalize atN xs i = n1 at *
  generalize atN xs j = n2 at *
  obtain ⟨nx, ny⟩ := n
  obtain ⟨ax, ay⟩ := n1
  obtain ⟨bx, by'⟩ := n2
  unfold Nd.val at HL HBT ⊢
  simp only at H0 HP HL HBT q1 q2
  have hij1 : (i : Int) < (xs.length : Int) := by omega
  have hij2 : (j : Int) < (xs.length : Int) := by omega
  cases d1
  case true =>
    go_enter Tryz.func125, Tryz.ntmps125
    go_wp2_with fail
    refine (HL.out _ HP.out).mono ?_
    rintro e wH1 ⟨rfl, hb⟩
    have H1 := Lib.hid ((H0.out).step hb); clear hb
    try clear x0 x1 x2 x3 x4 x5 x6 x7
    obtain ⟨x0, x1, x2, x3, x4, x5, x6, x7, _⟩ := H1.out.1
    obtain ⟨y0, y1, y2, y3, y4, y5, y6, y7, _⟩ := H1.out.2.1
    go_wp2_with fail
    go_ret
    exact ⟨ret_bool (by rw [HR.out]; simp), ((H1.out.alloc _).alloc _).below⟩
  cases d2
  case true =>
    go_enter Tryz.func125, Tryz.ntmps125
    go_wp2_with fail
    refine (HL.out _ HP.out).mono ?_
    rintro e wH1 ⟨rfl, hb⟩
    have H1 := Lib.hid ((H0.out).step hb); clear hb
    try clear x0 x1 x2 x3 x4 x5 x6 x7
    obtain ⟨x0, x1, x2, x3, x4, x5, x6, x7, _⟩ := H1.out.1
    obtain ⟨y0, y1, y2, y3, y4, y5, y6, y7, _⟩ := H1.out.2.1
    go_wp2_with fail
    go_ret
    exact ⟨ret_bool (by rw [HR.out]; simp), ((H1.out.alloc _).alloc _).below⟩
  · go_enter Tryz.func125, Tryz.ntmps125
    go_wp2_with fail
    refine (HL.out _ HP.out).mono ?_
    rintro e wH1 ⟨rfl, hb⟩
    have H1 := Lib.hid ((H0.out).step hb); clear hb
    try clear x0 x1 x2 x3 x4 x5 x6 x7
    obtain ⟨x0, x1, x2, x3, x4, x5, x6, x7, _⟩ := H1.out.1
    obtain ⟨y0, y1, y2, y3, y4, y5, y6, y7, _⟩ := H1.out.2.1
    go_wp2_with fail
    refine (HBT.out _).mono ?_
    rintro e wH2 ⟨rfl, hb⟩
    have H2 := Lib.hid (((H1.out.alloc _).alloc _).step hb); clear hb
    try clear x0 x1 x2 x3 x4 x5 x6 x7
    obtain ⟨x0, x1, x2, x3, x4, x5, x6, x7, _⟩ := H2.out.1
    go_wp2_with fail
    go_ret
    exact ⟨ret_bool (by rw [HR.out]; simp), H2.out.below⟩
end Go.Proofs.YtmcbbjobjogkmaaGreat
