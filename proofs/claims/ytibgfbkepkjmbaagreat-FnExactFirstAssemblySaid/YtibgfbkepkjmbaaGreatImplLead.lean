/-
  What the program's functions on leads return.
-/
import Derived.Test.YtibgfbkepkjmbaaGreatG24
import Derived.Test.YtibgfbkepkjmbaaGreatImplNode
import Derived.RegionTactic
import Derived.ChangeAlike
namespace Go.Proofs.YtibgfbkepkjmbaaGreat
open Go.RowKit
set_option linter.unusedVariables false
set_option linter.unusedSimpArgs false

theorem implHas (A : Option Addr) (n c : Nat) (k : Int) (w : World) (hn : n ≤ 9223372036854775807) :
    Calls Tryz.prog 148 #[.slice A n c, .int .i64 k] w fun e w' => e = .returned (.bool (idxB n k)) ∧ w = w' := by
  have hr : idxB n k = decide (0 ≤ k ∧ k < (n : Int)) := by rw [Bool.eq_iff_iff, idxB_iff]; simp
  generalize idxB n k = r at *
  have HR := Lib.hid hr; clear hr
  go_enter Tryz.func148, Tryz.ntmps148
  go_wp2
  all_goals
    go_ret
    exact ⟨ret_bool (by rw [HR.out, Bool.eq_iff_iff]; simp; omega), rfl⟩

def EndsIs (a b : Nd) (w : World) (e : Ending) (w' : World) : Prop := e = .returned (.tuple #[a.val, b.val]) ∧ Below w.heap.size w w'

theorem implEnds (xs : List Nd) (b o c i j : Nat) (w : World) (hb : b < w.heap.size) (hcs : CellsAt w b o xs) (hi : i < xs.length) (hj : j < xs.length) (hn : xs.length ≤ 9223372036854775807) :
    Calls Tryz.prog 167 #[.slice (some ⟨b, o, none⟩) xs.length c, (Nd.mk i j).val] w (EndsIs (atN xs i) (atN xs j) w) := by
  have H0 := Lib.hid (held_lead hcs hb hi hj ⟨i, j⟩ 104)
  unfold P1 at H0
  unfold EndsIs
  generalize atN xs i = n1 at *
  generalize atN xs j = n2 at *
  obtain ⟨ax, ay⟩ := n1
  obtain ⟨bx, by'⟩ := n2
  unfold Nd.val
  simp only at H0
  have hz1 : (i : Int) < (xs.length : Int) := by omega
  have hz2 : (j : Int) < (xs.length : Int) := by omega
  have hz3 : (0 : Int) ≤ i := by omega
  have hz4 : (0 : Int) ≤ j := by omega
  obtain ⟨c0, c1, c2, c3, c4, c5, _⟩ := H0.out.1
  have hb1 : b < w.heap.size + 1 := by omega
  have hb2 : b < w.heap.size + 1 + 1 := by omega
  have d2 : w.cell? ⟨b, o + i * 2, none⟩ = some (.int .i64 ax) := by rw [← c2]; exact (World.cell?_alloc_lt w _ _ (by simpa using hb)).symm
  have d3 : w.cell? ⟨b, o + i * 2 + 1, none⟩ = some (.int .i64 ay) := by rw [← c3]; exact (World.cell?_alloc_lt w _ _ (by simpa using hb)).symm
  have d4 : w.cell? ⟨b, o + j * 2, none⟩ = some (.int .i64 bx) := by rw [← c4]; exact (World.cell?_alloc_lt w _ _ (by simpa using hb)).symm
  have d5 : w.cell? ⟨b, o + j * 2 + 1, none⟩ = some (.int .i64 by') := by rw [← c5]; exact (World.cell?_alloc_lt w _ _ (by simpa using hb)).symm
  clear c0 c1 c2 c3 c4 c5 hcs
  go_enter Tryz.func167, Tryz.ntmps167
  go_wp2_with fail
  go_region
  go_wp2_with fail
  refine bodyPost_ret (v := .tuple #[.agg #[.int .i64 ax, .int .i64 ay], .agg #[.int .i64 bx, .int .i64 by']]) (by simp [results, Tryz.results167, go_sem]) rfl ⟨rfl, ?_⟩
  exact (below3 w _ _ _).drew

theorem implEnds2 (xs : List Nd) (v : Value) (i j : Nat) (w : World) (hv : Prs w v xs) (hi : i < xs.length) (hj : j < xs.length) :
    Calls Tryz.prog 167 #[v, (Nd.mk i j).val] w (EndsIs (atN xs i) (atN xs j) w) := by
  have hn := hv.len
  obtain ⟨b, o, c, rfl, hb, hcs⟩ := prs_at hv hi
  exact implEnds xs b o c i j w hb hcs hi hj hn

theorem implHas2 (xs : List Nd) (v : Value) (k : Int) (w : World) (hv : ∃ (A : Option Addr) (c : Nat), v = .slice A xs.length c) (hn : xs.length ≤ 9223372036854775807) :
    Calls Tryz.prog 148 #[v, .int .i64 k] w fun e w' => e = .returned (.bool (idxB xs.length k)) ∧ w = w' := by
  obtain ⟨A, c, rfl⟩ := hv
  exact implHas A xs.length c k w hn

set_option maxRecDepth 100000 in
theorem implLeadOk (xs : List Nd) (v : Value) (l : Nd) (w : World) (hv : Prs w v xs) :
    Calls Tryz.prog 145 #[v, l.val] w (BoolIs (leadOkB xs l) w) := by
  have hr : leadOkB xs l = (idxB xs.length l.x && idxB xs.length l.y && decide (l.x < l.y) && (okB (atI xs l.x) && okB (atI xs l.y)) && decide (atI xs l.x ≠ atI xs l.y)) := rfl
  have HR := Lib.hid hr; clear hr
  have hlen := hv.len
  have HX := Lib.hid (fun w => implHas2 xs v l.x w (prs_form hv) hlen)
  have HY := Lib.hid (fun w => implHas2 xs v l.y w (prs_form hv) hlen)
  have H0 := Lib.hid (held1 w l 104)
  have HP := Lib.hid (hv.step H0.out.below)
  generalize leadOkB xs l = r at *
  by_cases hx : idxB xs.length l.x = true
  case neg =>
    rw [Bool.not_eq_true] at hx
    rw [hx] at HX HR
    clear hx
    obtain ⟨A, c, rfl⟩ := prs_form hv
    clear hv
    obtain ⟨lx, ly⟩ := l
    unfold Nd.val
    simp only at HX HY H0
    go_enter Tryz.func145, Tryz.ntmps145
    go_wp2_with fail
    refine (HX.out _).mono ?_
    rintro e w' ⟨rfl, rfl⟩
    go_wp2_with fail
    go_ret
    exact ⟨ret_bool (by rw [HR.out]; simp), H0.out.below⟩
  by_cases hy : idxB xs.length l.y = true
  case neg =>
    rw [Bool.not_eq_true] at hy
    rw [hy] at HY HR
    rw [hx] at HX
    clear hy hx
    obtain ⟨A, c, rfl⟩ := prs_form hv
    clear hv
    obtain ⟨lx, ly⟩ := l
    unfold Nd.val
    simp only at HX HY H0
    go_enter Tryz.func145, Tryz.ntmps145
    go_wp2_with fail
    refine (HX.out _).mono ?_
    rintro e w' ⟨rfl, rfl⟩
    go_wp2_with fail
    refine (HY.out _).mono ?_
    rintro e w' ⟨rfl, rfl⟩
    go_wp2_with fail
    go_ret
    exact ⟨ret_bool (by rw [HR.out]; simp), H0.out.below⟩
  rw [hx, hy] at HR
  rw [hx] at HX
  rw [hy] at HY
  rw [idxB_iff] at hx hy
  obtain ⟨lx, ly⟩ := l
  simp only at hx hy HX HY HR H0 HP
  obtain ⟨i, rfl⟩ : ∃ i : Nat, lx = i := ⟨lx.toNat, by omega⟩
  obtain ⟨j, rfl⟩ : ∃ j : Nat, ly = j := ⟨ly.toNat, by omega⟩
  have hi : i < xs.length := by omega
  have hj : j < xs.length := by omega
  have HE := Lib.hid (fun w hv => implEnds2 xs v i j w hv hi hj)
  obtain ⟨A, c, rfl⟩ := prs_form hv
  clear hv
  unfold Nd.val
  by_cases hlt : i < j
  case neg =>
    go_enter Tryz.func145, Tryz.ntmps145
    go_wp2_with fail
    refine (HX.out _).mono ?_
    rintro e w' ⟨rfl, rfl⟩
    go_wp2_with fail
    refine (HY.out _).mono ?_
    rintro e w' ⟨rfl, rfl⟩
    go_wp2_with fail
    go_ret
    exact ⟨ret_bool (by rw [HR.out, decide_eq_false (p := (i : Int) < j) (by omega)]; simp), H0.out.below⟩
  have hr2 : r = ((okB (atN xs i) && okB (atN xs j)) && decide (atN xs i ≠ atN xs j)) := by
    rw [HR.out, decide_eq_true (p := (i : Int) < j) (by omega), atI_nat, atI_nat]; simp
  have HR2 := Lib.hid hr2; clear hr2 HR
  have HA := Lib.hid (fun g T W => implAre2 (atN xs i) (atN xs j) g T W)
  have q := eqNd (atN xs i) (atN xs j)
  have g : decide (atN xs i ≠ atN xs j) = !decide (atN xs i = atN xs j) := by simp
  rw [g] at HR2
  clear g
  unfold EndsIs at HE
  generalize decide (atN xs i = atN xs j) = d at *
  generalize (okB (atN xs i) && okB (atN xs j)) = k at *
  generalize atN xs i = n1 at *
  generalize atN xs j = n2 at *
  obtain ⟨ax, ay⟩ := n1
  obtain ⟨bx, by'⟩ := n2
  unfold Nd.val at HE
  simp only at q HA HE
  cases k
  · go_enter Tryz.func145, Tryz.ntmps145
    go_wp2_with fail
    refine (HX.out _).mono ?_
    rintro e w' ⟨rfl, rfl⟩
    go_wp2_with fail
    refine (HY.out _).mono ?_
    rintro e w' ⟨rfl, rfl⟩
    go_wp2_with fail
    refine (HE.out _ HP.out).mono ?_
    rintro e wH1 ⟨rfl, hb⟩
    have H1 := Lib.hid ((H0.out).step hb); clear hb
    try clear x0 x1
    obtain ⟨x0, x1, _⟩ := H1.out.1
    go_wp2_with fail
    refine (HA.out _ _ _ (by simp)).mono ?_
    rintro e wH2 ⟨rfl, hb⟩
    have H2 := Lib.hid (((((H1.out.drop.new2 wH1.heap.size rfl [.int .i64 ax, .int .i64 ay] 106).new2 (wH1.heap.size + 1) (by simp) [.int .i64 bx, .int .i64 by'] 106).alloc _)).step hb); clear hb
    try clear x0 x1 x2 x3
    obtain ⟨x0, x1, x2, x3, _⟩ := H2.out.1
    go_wp2_with fail
    go_ret
    exact ⟨ret_bool (by rw [HR2.out]; simp), H2.out.below⟩
  · go_enter Tryz.func145, Tryz.ntmps145
    go_wp2_with fail
    refine (HX.out _).mono ?_
    rintro e w' ⟨rfl, rfl⟩
    go_wp2_with fail
    refine (HY.out _).mono ?_
    rintro e w' ⟨rfl, rfl⟩
    go_wp2_with fail
    refine (HE.out _ HP.out).mono ?_
    rintro e wH1 ⟨rfl, hb⟩
    have H1 := Lib.hid ((H0.out).step hb); clear hb
    try clear x0 x1
    obtain ⟨x0, x1, _⟩ := H1.out.1
    go_wp2_with fail
    refine (HA.out _ _ _ (by simp)).mono ?_
    rintro e wH2 ⟨rfl, hb⟩
    have H2 := Lib.hid (((((H1.out.drop.new2 wH1.heap.size rfl [.int .i64 ax, .int .i64 ay] 106).new2 (wH1.heap.size + 1) (by simp) [.int .i64 bx, .int .i64 by'] 106).alloc _)).step hb); clear hb
    try clear x0 x1 x2 x3
    obtain ⟨x0, x1, x2, x3, _⟩ := H2.out.1
    go_wp2_with fail
    go_ret
    exact ⟨ret_bool (by rw [HR2.out]; simp), H2.out.below⟩

theorem implOther (l : Nd) (k : Int) (w : World) :
    Calls Tryz.prog 124 #[l.val, .int .i64 k] w (IntIs (otherI l k) w) := by
  have hr : otherI l k = if k = l.x then l.y else if k = l.y then l.x else -1 := rfl
  generalize otherI l k = r at *
  obtain ⟨x, y⟩ := l
  simp only at hr
  have HR := Lib.hid hr; clear hr
  unfold Nd.val
  by_cases h1 : k = x
  · subst h1
    go_enter Tryz.func124, Tryz.ntmps124
    go_wp2_with fail
    go_ret
    exact ⟨ret_int (by rw [HR.out]; simp), (Below.refl _ _).alloc (Nat.le_refl _) _⟩
  have g1 : (k == x) = false := by rw [beq_eq_false_iff_ne]; exact h1
  have H1 := Lib.hid h1; clear h1
  by_cases h2 : k = y
  · subst h2
    go_enter Tryz.func124, Tryz.ntmps124
    go_wp2_with fail
    go_ret
    exact ⟨ret_int (by rw [HR.out, if_neg H1.out]; simp), (Below.refl _ _).alloc (Nat.le_refl _) _⟩
  · have g2 : (k == y) = false := by rw [beq_eq_false_iff_ne]; exact h2
    have H2 := Lib.hid h2; clear h2
    go_enter Tryz.func124, Tryz.ntmps124
    go_wp2_with fail
    go_ret
    exact ⟨ret_int (by rw [HR.out, if_neg H1.out, if_neg H2.out]), (Below.refl _ _).alloc (Nat.le_refl _) _⟩

set_option maxRecDepth 100000 in
theorem implOn (xs : List Nd) (v : Value) (l n : Nd) (w : World) (hv : Prs w v xs) :
    Calls Tryz.prog 169 #[v, l.val, n.val] w (BoolIs (onLeadB xs l n) w) := by
  have hr : onLeadB xs l n = (leadOkB xs l && (decide (n = atI xs l.x) || decide (n = atI xs l.y) || betweenB (atI xs l.x) (atI xs l.y) n)) := rfl
  have HR := Lib.hid hr; clear hr
  have HL := Lib.hid (fun w hv => implLeadOk xs v l w hv)
  have hlen := hv.len
  generalize onLeadB xs l n = r at *
  by_cases hk : leadOkB xs l = true
  case neg =>
    rw [Bool.not_eq_true] at hk
    rw [hk] at HL HR
    clear hk
    have H0 := Lib.hid (held2 w l n 104 106)
    have HP := Lib.hid ((hv.step (H0.out.below)))
    obtain ⟨A, c, rfl⟩ := prs_form hv
    clear hv
    obtain ⟨lx, ly⟩ := l
    obtain ⟨nx, ny⟩ := n
    unfold Nd.val at HL ⊢
    simp only at H0 HP HL
    go_enter Tryz.func169, Tryz.ntmps169
    go_wp2_with fail
    refine (HL.out _ HP.out).mono ?_
    rintro e wH1 ⟨rfl, hb⟩
    have H1 := Lib.hid ((H0.out).step hb); clear hb
    try clear x0 x1 x2 x3
    obtain ⟨x0, x1, x2, x3, _⟩ := H1.out.1
    go_wp2_with fail
    go_ret
    exact ⟨ret_bool (by rw [HR.out]; simp), H1.out.below⟩
  obtain ⟨i, j, rfl, hij, hi, hj, ki, kj⟩ := leadOkB_spec hk
  rw [hk] at HL HR
  simp only [Bool.true_and] at HR
  rw [atI_nat, atI_nat] at HR
  clear hk ki kj
  have HP0 := Lib.hid hv
  have HE := Lib.hid (fun w hv => implEnds2 xs v i j w hv hi hj)
  unfold EndsIs at HE
  obtain ⟨b, o, c, rfl, hb, hcs⟩ := prs_at hv hi
  have H0 := Lib.hid (held_on hcs hb hi hj ⟨i, j⟩ n 104 106)
  have HP := Lib.hid (HP0.out.step (H0.out.below))
  have HBT := Lib.hid (implBetween (atN xs i) (atN xs j) n)
  have q1 := eqNd n (atN xs i)
  have q2 := eqNd n (atN xs j)
  clear hcs
  clear hv
  unfold P1 at H0
  generalize decide (n = atN xs i) = d1 at *
  generalize decide (n = atN xs j) = d2 at *
  generalize betweenB (atN xs i) (atN xs j) n = bt at *
  generalize atN xs i = n1 at *
  generalize atN xs j = n2 at *
  obtain ⟨nx, ny⟩ := n
  obtain ⟨ax, ay⟩ := n1
  obtain ⟨bx, by'⟩ := n2
  unfold Nd.val at HL HBT HE ⊢
  simp only at H0 HP HL HBT HE q1 q2
  have hij1 : (i : Int) < (xs.length : Int) := by omega
  have hij2 : (j : Int) < (xs.length : Int) := by omega
  cases d1
  case true =>
    go_enter Tryz.func169, Tryz.ntmps169
    go_wp2_with fail
    refine (HL.out _ HP.out).mono ?_
    rintro e wH1 ⟨rfl, hb⟩
    have H1 := Lib.hid ((H0.out).step hb); clear hb
    try clear x0 x1 x2 x3 x4 x5 x6 x7
    obtain ⟨x0, x1, x2, x3, x4, x5, x6, x7, _⟩ := H1.out.1
    go_wp2_with fail
    refine (HE.out _ (HP0.out.step H1.out.below)).mono ?_
    rintro e wH1e ⟨rfl, hb⟩
    have H1e := Lib.hid ((H1.out).step hb); clear hb
    try clear x0 x1 x2 x3
    obtain ⟨x0, x1, x2, x3, _⟩ := H1e.out.1
    obtain ⟨y0, y1, y2, y3, _⟩ := H1e.out.2.1
    go_wp2_with fail
    go_ret
    exact ⟨ret_bool (by rw [HR.out]; simp), ((H1e.out.alloc _).alloc _).below⟩
  cases d2
  case true =>
    go_enter Tryz.func169, Tryz.ntmps169
    go_wp2_with fail
    refine (HL.out _ HP.out).mono ?_
    rintro e wH1 ⟨rfl, hb⟩
    have H1 := Lib.hid ((H0.out).step hb); clear hb
    try clear x0 x1 x2 x3 x4 x5 x6 x7
    obtain ⟨x0, x1, x2, x3, x4, x5, x6, x7, _⟩ := H1.out.1
    go_wp2_with fail
    refine (HE.out _ (HP0.out.step H1.out.below)).mono ?_
    rintro e wH1e ⟨rfl, hb⟩
    have H1e := Lib.hid ((H1.out).step hb); clear hb
    try clear x0 x1 x2 x3
    obtain ⟨x0, x1, x2, x3, _⟩ := H1e.out.1
    obtain ⟨y0, y1, y2, y3, _⟩ := H1e.out.2.1
    go_wp2_with fail
    go_ret
    exact ⟨ret_bool (by rw [HR.out]; simp), ((H1e.out.alloc _).alloc _).below⟩
  · go_enter Tryz.func169, Tryz.ntmps169
    go_wp2_with fail
    refine (HL.out _ HP.out).mono ?_
    rintro e wH1 ⟨rfl, hb⟩
    have H1 := Lib.hid ((H0.out).step hb); clear hb
    try clear x0 x1 x2 x3 x4 x5 x6 x7
    obtain ⟨x0, x1, x2, x3, x4, x5, x6, x7, _⟩ := H1.out.1
    go_wp2_with fail
    refine (HE.out _ (HP0.out.step H1.out.below)).mono ?_
    rintro e wH1e ⟨rfl, hb⟩
    have H1e := Lib.hid ((H1.out).step hb); clear hb
    try clear x0 x1 x2 x3
    obtain ⟨x0, x1, x2, x3, _⟩ := H1e.out.1
    obtain ⟨y0, y1, y2, y3, _⟩ := H1e.out.2.1
    go_wp2_with fail
    refine (HBT.out _).mono ?_
    rintro e wH2 ⟨rfl, hb⟩
    have H2 := Lib.hid (((H1e.out.alloc _).alloc _).step hb); clear hb
    try clear x0 x1 x2 x3
    obtain ⟨x0, x1, x2, x3, _⟩ := H2.out.1
    go_wp2_with fail
    go_ret
    exact ⟨ret_bool (by rw [HR.out]; simp), H2.out.below⟩

/-- Four boxed nodes at the start of a call. -/
theorem held4 (w : World) (a b c d : Nd) (T : TypeId) :
    Held w ((((w.alloc (.cells #[.int .i64 a.x, .int .i64 a.y] T)).alloc (.cells #[.int .i64 b.x, .int .i64 b.y] T)).alloc (.cells #[.int .i64 c.x, .int .i64 c.y] T)).alloc (.cells #[.int .i64 d.x, .int .i64 d.y] T))
      [(w.heap.size, 0, .int .i64 a.x), (w.heap.size, 1, .int .i64 a.y), (w.heap.size + 1, 0, .int .i64 b.x), (w.heap.size + 1, 1, .int .i64 b.y),
       (w.heap.size + 1 + 1, 0, .int .i64 c.x), (w.heap.size + 1 + 1, 1, .int .i64 c.y), (w.heap.size + 1 + 1 + 1, 0, .int .i64 d.x), (w.heap.size + 1 + 1 + 1, 1, .int .i64 d.y)] := by
  have k := ((((Held.none_ w).new2 w.heap.size rfl [.int .i64 a.x, .int .i64 a.y] T).new2 (w.heap.size + 1) (by simp) [.int .i64 b.x, .int .i64 b.y] T).new2 (w.heap.size + 1 + 1) (by simp) [.int .i64 c.x, .int .i64 c.y] T).new2 (w.heap.size + 1 + 1 + 1) (by simp) [.int .i64 d.x, .int .i64 d.y] T
  obtain ⟨⟨d0, d1, c0, c1, b0, b1, a0, a1, _⟩, ⟨d2, _, c2, _, b2, _, a2, _, _⟩, hb⟩ := k
  exact ⟨⟨a0, a1, b0, b1, c0, c1, d0, d1, trivial⟩, ⟨a2, a2, b2, b2, c2, c2, d2, d2, trivial⟩, hb⟩

theorem implHolds (a b c d : Nd) (w : World) :
    Calls Tryz.prog 180 #[a.val, b.val, c.val, d.val] w (BoolIs (betweenB a b c || betweenB a b d) w) := by
  have HA := Lib.hid (implBetween a b c)
  have HB := Lib.hid (implBetween a b d)
  have H0 := Lib.hid (held4 w a b c d 106)
  generalize betweenB a b c = p at *
  generalize betweenB a b d = q at *
  obtain ⟨ax, ay⟩ := a
  obtain ⟨bx, by'⟩ := b
  obtain ⟨cx, cy⟩ := c
  obtain ⟨dx, dy⟩ := d
  unfold Nd.val at HA HB ⊢
  simp only at HA HB H0
  cases p
  · go_enter Tryz.func180, Tryz.ntmps180
    go_wp2_with fail
    refine (HA.out _).mono ?_
    rintro e wH1 ⟨rfl, hb⟩
    have H1 := Lib.hid ((H0.out).step hb); clear hb
    try clear x0 x1 x2 x3 x4 x5 x6 x7
    obtain ⟨x0, x1, x2, x3, x4, x5, x6, x7, _⟩ := H1.out.1
    go_wp2_with fail
    refine (HB.out _).mono ?_
    rintro e wH2 ⟨rfl, hb⟩
    have H2 := Lib.hid ((H1.out).step hb); clear hb
    try clear x0 x1 x2 x3 x4 x5 x6 x7
    obtain ⟨x0, x1, x2, x3, x4, x5, x6, x7, _⟩ := H2.out.1
    go_wp2_with fail
    go_ret
    exact ⟨ret_bool (by simp), H2.out.below⟩
  · go_enter Tryz.func180, Tryz.ntmps180
    go_wp2_with fail
    refine (HA.out _).mono ?_
    rintro e wH1 ⟨rfl, hb⟩
    have H1 := Lib.hid ((H0.out).step hb); clear hb
    try clear x0 x1 x2 x3 x4 x5 x6 x7
    obtain ⟨x0, x1, x2, x3, x4, x5, x6, x7, _⟩ := H1.out.1
    go_wp2_with fail
    go_ret
    exact ⟨ret_bool (by simp), H1.out.below⟩

set_option maxRecDepth 100000 in
theorem implSep (a b c d : Nd) (w : World) (ka : okB a = true) (kb : okB b = true) (kc : okB c = true) (kd : okB d = true) :
    Calls Tryz.prog 181 #[a.val, b.val, c.val, d.val] w (BoolIs (sepB a b c d) w) := by
  have hr : sepB a b c d = decide (turnI a b c * turnI a b d < 0) := rfl
  have HR := Lib.hid hr; clear hr
  have HA := implTurnOf a b c
  have HB := implTurnOf a b d
  rw [turnOf_ok ka kb kc] at HA
  rw [turnOf_ok ka kb kd] at HB
  have HA := Lib.hid HA
  have HB := Lib.hid HB
  obtain ⟨l1, g1⟩ := turn_bd ka kb kc
  obtain ⟨l2, g2⟩ := turn_bd ka kb kd
  have H0 := Lib.hid (held4 w a b c d 106)
  clear ka kb kc kd
  generalize sepB a b c d = r at *
  generalize turnI a b c = s1 at *
  generalize turnI a b d = s2 at *
  obtain ⟨m1, m2⟩ := prod_bd (p := s1) (q := s2) 800 (by omega) (by omega) (by omega) (by omega)
  have w1 : IntKind.i64.wrap (s1 * s2) = s1 * s2 := IntWalk.i64_in _ (by omega)
  obtain ⟨z, ez⟩ : ∃ z, s1 * s2 = z := ⟨_, rfl⟩
  rw [ez] at HR w1 m1 m2
  obtain ⟨ax, ay⟩ := a
  obtain ⟨bx, by'⟩ := b
  obtain ⟨cx, cy⟩ := c
  obtain ⟨dx, dy⟩ := d
  unfold Nd.val at HA HB ⊢
  simp only at HA HB H0
  go_enter Tryz.func181, Tryz.ntmps181
  go_wp2_with fail
  refine regionD (S := fun W => Held _ W [(w.heap.size, 0, .int .i64 (ax)), (w.heap.size, 1, .int .i64 (ay)), (w.heap.size + 1, 0, .int .i64 (bx)), (w.heap.size + 1, 1, .int .i64 (by')), (w.heap.size + 1 + 1, 0, .int .i64 (cx)), (w.heap.size + 1 + 1, 1, .int .i64 (cy)), (w.heap.size + 1 + 1 + 1, 0, .int .i64 (dx)), (w.heap.size + 1 + 1 + 1, 1, .int .i64 (dy))]) (by kernel_rfl) H0.out.drew ?_
  iterate 11 (refine takeT (v := ?_) rfl (by kernel_rfl) (by kernel_rfl) (by kernel_rfl) ?_ ?_; rotate_left; (first | (refine Or.inr ⟨by rfl, ?_⟩; with_reducible rfl) | (refine Or.inl ⟨by rfl, fun W hS => detRes_value (w' := W) ?_ hS⟩; obtain ⟨x0, x1, x2, x3, x4, x5, x6, x7, _⟩ := hS.1; go_simp; first | done | with_reducible rfl) | (refine Or.inl ⟨by rfl, fun W hS => ?_⟩; refine detRes_call (w' := W) (f := ?_) (args := ?_) ?_ ?_; rotate_left 2; (go_simp; (refine ⟨?_, ?_⟩ <;> with_reducible rfl)); (first | (with_reducible refine (HA.out _).mono ?_) | (with_reducible refine (HB.out _).mono ?_) | fail); (first | (rintro e wn ⟨rfl, hb⟩; refine ⟨?_, hS.step hb⟩; with_reducible rfl) | (rintro e wn ⟨rfl, rfl⟩; refine ⟨?_, hS⟩; with_reducible rfl) | fail)) | fail); (simp only [Act.put, List.setIfInBounds_toArray, List.set_cons_zero, List.set_cons_succ]))
  refine doneD (by kernel_rfl) fun wH1 HS => ?_
  have H1 := Lib.hid HS; clear HS
  try clear x0 x1 x2 x3 x4 x5 x6 x7
  obtain ⟨x0, x1, x2, x3, x4, x5, x6, x7, _⟩ := H1.out.1
  go_wp2_with fail
  go_ret
  exact ⟨ret_bool (by rw [HR.out]), H1.out.below⟩

/-- Two boxed nodes, kept over a call that ends in W1, and two more boxed behind it. -/
theorem held_ends {w W : World} {fs : List (Nat × Nat × Value)} (h : Held w W fs) (a b c d : Nd) (T : TypeId) (W1 : World)
    (hb : Below ((W.alloc (.cells #[.int .i64 a.x, .int .i64 a.y] T)).alloc (.cells #[.int .i64 b.x, .int .i64 b.y] T)).heap.size ((W.alloc (.cells #[.int .i64 a.x, .int .i64 a.y] T)).alloc (.cells #[.int .i64 b.x, .int .i64 b.y] T)) W1) :
    Cs W1 [(W.heap.size, 0, .int .i64 a.x), (W.heap.size, 1, .int .i64 a.y), (W.heap.size + 1, 0, .int .i64 b.x), (W.heap.size + 1, 1, .int .i64 b.y)] ∧
    Bs W1.heap.size [(W.heap.size, 0, .int .i64 a.x), (W.heap.size, 1, .int .i64 a.y), (W.heap.size + 1, 0, .int .i64 b.x), (W.heap.size + 1, 1, .int .i64 b.y)] ∧
    (∀ T1 T2 : TypeId, Held w ((W1.alloc (.cells #[.int .i64 c.x, .int .i64 c.y] T1)).alloc (.cells #[.int .i64 d.x, .int .i64 d.y] T2))
      [(W.heap.size, 0, .int .i64 a.x), (W.heap.size, 1, .int .i64 a.y), (W.heap.size + 1, 0, .int .i64 b.x), (W.heap.size + 1, 1, .int .i64 b.y),
       (W1.heap.size, 0, .int .i64 c.x), (W1.heap.size, 1, .int .i64 c.y), (W1.heap.size + 1, 0, .int .i64 d.x), (W1.heap.size + 1, 1, .int .i64 d.y)]) := by
  have k := ((h.drop.new2 W.heap.size rfl [.int .i64 a.x, .int .i64 a.y] T).new2 (W.heap.size + 1) (by simp) [.int .i64 b.x, .int .i64 b.y] T).step hb
  obtain ⟨⟨b0, b1, a0, a1, _⟩, ⟨b2, _, a2, _, _⟩, hbl⟩ := id k
  refine ⟨⟨a0, a1, b0, b1, trivial⟩, ⟨a2, a2, b2, b2, trivial⟩, fun T1 T2 => ?_⟩
  have k2 := (k.new2 W1.heap.size rfl [.int .i64 c.x, .int .i64 c.y] T1).new2 (W1.heap.size + 1) (by simp) [.int .i64 d.x, .int .i64 d.y] T2
  obtain ⟨⟨d0, d1, c0, c1, b0, b1, a0, a1, _⟩, ⟨d2, _, c2, _, b2, _, a2, _, _⟩, hb⟩ := k2
  exact ⟨⟨a0, a1, b0, b1, c0, c1, d0, d1, trivial⟩, ⟨a2, a2, b2, b2, c2, c2, d2, d2, trivial⟩, hb⟩

set_option maxRecDepth 100000 in
set_option maxHeartbeats 2000000 in
theorem implCross (xs : List Nd) (v : Value) (l m : Nd) (w : World) (hv : Prs w v xs) :
    Calls Tryz.prog 170 #[v, l.val, m.val] w (BoolIs (crossB xs l m) w) := by
  have hr : crossB xs l m = (leadOkB xs l && leadOkB xs m && meetB (atI xs l.x) (atI xs l.y) (atI xs m.x) (atI xs m.y)) := rfl
  have HR := Lib.hid hr; clear hr
  have HL := Lib.hid (fun w hv => implLeadOk xs v l w hv)
  have HM := Lib.hid (fun w hv => implLeadOk xs v m w hv)
  have hlen := hv.len
  have HP0 := Lib.hid hv
  generalize crossB xs l m = r at *
  by_cases hk : leadOkB xs l = true
  case neg =>
    rw [Bool.not_eq_true] at hk
    rw [hk] at HL HR
    clear hk
    have H0 := Lib.hid (held2 w l m 104 104)
    have HP := Lib.hid (HP0.out.step (H0.out.below))
    obtain ⟨A, c, rfl⟩ := prs_form hv
    clear hv
    obtain ⟨lx, ly⟩ := l
    obtain ⟨nx, ny⟩ := m
    unfold Nd.val at HL ⊢
    simp only at H0 HP HL
    go_enter Tryz.func170, Tryz.ntmps170
    go_wp2_with fail
    refine (HL.out _ HP.out).mono ?_
    rintro e wH1 ⟨rfl, hb⟩
    have H1 := Lib.hid ((H0.out).step hb); clear hb
    try clear x0 x1 x2 x3
    obtain ⟨x0, x1, x2, x3, _⟩ := H1.out.1
    go_wp2_with fail
    go_ret
    exact ⟨ret_bool (by rw [HR.out]; simp), H1.out.below⟩
  by_cases hk2 : leadOkB xs m = true
  case neg =>
    rw [Bool.not_eq_true] at hk2
    rw [hk2] at HM HR
    rw [hk] at HL
    clear hk hk2
    have H0 := Lib.hid (held2 w l m 104 104)
    have HP := Lib.hid (HP0.out.step (H0.out.below))
    obtain ⟨A, c, rfl⟩ := prs_form hv
    clear hv
    obtain ⟨lx, ly⟩ := l
    obtain ⟨nx, ny⟩ := m
    unfold Nd.val at HL HM ⊢
    simp only at H0 HP HL HM
    go_enter Tryz.func170, Tryz.ntmps170
    go_wp2_with fail
    refine (HL.out _ HP.out).mono ?_
    rintro e wH1 ⟨rfl, hb⟩
    have H1 := Lib.hid ((H0.out).step hb); clear hb
    try clear x0 x1 x2 x3
    obtain ⟨x0, x1, x2, x3, _⟩ := H1.out.1
    go_wp2_with fail
    refine (HM.out _ (HP0.out.step H1.out.below)).mono ?_
    rintro e wH2 ⟨rfl, hb⟩
    have H2 := Lib.hid ((H1.out).step hb); clear hb
    try clear x0 x1 x2 x3
    obtain ⟨x0, x1, x2, x3, _⟩ := H2.out.1
    go_wp2_with fail
    go_ret
    exact ⟨ret_bool (by rw [HR.out]; simp), H2.out.below⟩
  obtain ⟨i, j, rfl, hij, hi, hj, ki, kj⟩ := leadOkB_spec hk
  obtain ⟨p, q, rfl, hpq, hp, hq, kp, kq⟩ := leadOkB_spec hk2
  rw [hk] at HL HR
  rw [hk2] at HM HR
  simp only [Bool.true_and, atI_nat] at HR
  rw [meet_prog] at HR
  clear hk hk2
  have H0 := Lib.hid (held2 w ⟨i, j⟩ ⟨p, q⟩ 104 104)
  have HP := Lib.hid (HP0.out.step (H0.out.below))
  have HE := Lib.hid (fun w hv => implEnds2 xs v i j w hv hi hj)
  have HG := Lib.hid (fun w hv => implEnds2 xs v p q w hv hp hq)
  obtain ⟨A, c, rfl⟩ := prs_form hv
  clear hv
  unfold EndsIs at HE HG
  have HB1 := Lib.hid (implHolds (atN xs i) (atN xs j) (atN xs p) (atN xs q))
  have HB2 := Lib.hid (implHolds (atN xs p) (atN xs q) (atN xs i) (atN xs j))
  have HS1 := Lib.hid (fun w => implSep (atN xs i) (atN xs j) (atN xs p) (atN xs q) w ki kj kp kq)
  have HS2 := Lib.hid (fun w => implSep (atN xs p) (atN xs q) (atN xs i) (atN xs j) w kp kq ki kj)
  have q1 := eqNd (atN xs i) (atN xs p)
  have q2 := eqNd (atN xs j) (atN xs q)
  have q3 := eqNd (atN xs i) (atN xs q)
  have q4 := eqNd (atN xs j) (atN xs p)
  clear ki kj kp kq
  generalize decide (atN xs i = atN xs p) = e1 at *
  generalize decide (atN xs j = atN xs q) = e2 at *
  generalize decide (atN xs i = atN xs q) = e3 at *
  generalize decide (atN xs j = atN xs p) = e4 at *
  generalize (betweenB (atN xs i) (atN xs j) (atN xs p) || betweenB (atN xs i) (atN xs j) (atN xs q)) = b1 at *
  generalize (betweenB (atN xs p) (atN xs q) (atN xs i) || betweenB (atN xs p) (atN xs q) (atN xs j)) = b2 at *
  generalize sepB (atN xs i) (atN xs j) (atN xs p) (atN xs q) = s1 at *
  generalize sepB (atN xs p) (atN xs q) (atN xs i) (atN xs j) = s2 at *
  generalize atN xs i = n1 at *
  generalize atN xs j = n2 at *
  generalize atN xs p = n3 at *
  generalize atN xs q = n4 at *
  obtain ⟨ax, ay⟩ := n1
  obtain ⟨bx, by'⟩ := n2
  obtain ⟨cx, cy⟩ := n3
  obtain ⟨dx, dy⟩ := n4
  have HF := Lib.hid (fun W W1 fs (h : Held w W fs) hb => held_ends h ⟨ax, ay⟩ ⟨bx, by'⟩ ⟨cx, cy⟩ ⟨dx, dy⟩ 106 W1 hb)
  unfold Nd.val at HL HM HB1 HB2 HS1 HS2 HE HG ⊢
  simp only at H0 HP HL HM HB1 HB2 HS1 HS2 HE HG HF q1 q2 q3 q4
  cases b1
  · cases b2
    · cases s1
      · go_enter Tryz.func170, Tryz.ntmps170
        go_wp2_with fail
        refine (HL.out _ HP.out).mono ?_
        rintro e wH1 ⟨rfl, hb⟩
        have H1 := Lib.hid ((H0.out).step hb); clear hb
        try clear x0 x1 x2 x3
        obtain ⟨x0, x1, x2, x3, _⟩ := H1.out.1
        go_wp2_with fail
        refine (HM.out _ (HP0.out.step H1.out.below)).mono ?_
        rintro e wH2 ⟨rfl, hb⟩
        have H2 := Lib.hid ((H1.out).step hb); clear hb
        try clear x0 x1 x2 x3
        obtain ⟨x0, x1, x2, x3, _⟩ := H2.out.1
        go_wp2_with fail
        refine (HE.out _ (HP0.out.step H2.out.below)).mono ?_
        rintro e wH3 ⟨rfl, hb⟩
        have H3 := Lib.hid ((H2.out).step hb); clear hb
        try clear x0 x1 x2 x3
        obtain ⟨x0, x1, x2, x3, _⟩ := H3.out.1
        obtain ⟨y0, y1, y2, y3, _⟩ := H3.out.2.1
        go_wp2_with fail
        refine (HG.out _ (HP0.out.step ((H3.out.alloc _).alloc _).below)).mono ?_
        rintro e w4 ⟨rfl, hb4⟩
        have H4 := Lib.hid (HF.out _ _ _ H3.out hb4); clear hb4
        clear x0 x1 x2 x3
        obtain ⟨⟨u0, u1, u2, u3, _⟩, ⟨v0, _, v1, _, _⟩, hfour⟩ := H4.out
        clear hfour
        go_wp2_with fail
        any_goals (go_ret; exact ⟨ret_bool (by rw [HR.out]; simp [*]), (H4.out.2.2 _ _).below⟩)
        all_goals
          refine (HB1.out _).mono ?_
          rintro e wH5 ⟨rfl, hb⟩
          have H5 := Lib.hid ((H4.out.2.2 _ _).step hb); clear hb
          try clear x0 x1 x2 x3 x4 x5 x6 x7
          obtain ⟨x0, x1, x2, x3, x4, x5, x6, x7, _⟩ := H5.out.1
          go_wp2_with fail
          refine (HB2.out _).mono ?_
          rintro e wH6 ⟨rfl, hb⟩
          have H6 := Lib.hid ((H5.out).step hb); clear hb
          try clear x0 x1 x2 x3 x4 x5 x6 x7
          obtain ⟨x0, x1, x2, x3, x4, x5, x6, x7, _⟩ := H6.out.1
          go_wp2_with fail
          refine (HS1.out _).mono ?_
          rintro e wH7 ⟨rfl, hb⟩
          have H7 := Lib.hid ((H6.out).step hb); clear hb
          try clear x0 x1 x2 x3 x4 x5 x6 x7
          obtain ⟨x0, x1, x2, x3, x4, x5, x6, x7, _⟩ := H7.out.1
          go_wp2_with fail
          go_ret
          exact ⟨ret_bool (by rw [HR.out]; simp [*]), H7.out.below⟩
      · go_enter Tryz.func170, Tryz.ntmps170
        go_wp2_with fail
        refine (HL.out _ HP.out).mono ?_
        rintro e wH1 ⟨rfl, hb⟩
        have H1 := Lib.hid ((H0.out).step hb); clear hb
        try clear x0 x1 x2 x3
        obtain ⟨x0, x1, x2, x3, _⟩ := H1.out.1
        go_wp2_with fail
        refine (HM.out _ (HP0.out.step H1.out.below)).mono ?_
        rintro e wH2 ⟨rfl, hb⟩
        have H2 := Lib.hid ((H1.out).step hb); clear hb
        try clear x0 x1 x2 x3
        obtain ⟨x0, x1, x2, x3, _⟩ := H2.out.1
        go_wp2_with fail
        refine (HE.out _ (HP0.out.step H2.out.below)).mono ?_
        rintro e wH3 ⟨rfl, hb⟩
        have H3 := Lib.hid ((H2.out).step hb); clear hb
        try clear x0 x1 x2 x3
        obtain ⟨x0, x1, x2, x3, _⟩ := H3.out.1
        obtain ⟨y0, y1, y2, y3, _⟩ := H3.out.2.1
        go_wp2_with fail
        refine (HG.out _ (HP0.out.step ((H3.out.alloc _).alloc _).below)).mono ?_
        rintro e w4 ⟨rfl, hb4⟩
        have H4 := Lib.hid (HF.out _ _ _ H3.out hb4); clear hb4
        clear x0 x1 x2 x3
        obtain ⟨⟨u0, u1, u2, u3, _⟩, ⟨v0, _, v1, _, _⟩, hfour⟩ := H4.out
        clear hfour
        go_wp2_with fail
        any_goals (go_ret; exact ⟨ret_bool (by rw [HR.out]; simp [*]), (H4.out.2.2 _ _).below⟩)
        all_goals
          refine (HB1.out _).mono ?_
          rintro e wH5 ⟨rfl, hb⟩
          have H5 := Lib.hid ((H4.out.2.2 _ _).step hb); clear hb
          try clear x0 x1 x2 x3 x4 x5 x6 x7
          obtain ⟨x0, x1, x2, x3, x4, x5, x6, x7, _⟩ := H5.out.1
          go_wp2_with fail
          refine (HB2.out _).mono ?_
          rintro e wH6 ⟨rfl, hb⟩
          have H6 := Lib.hid ((H5.out).step hb); clear hb
          try clear x0 x1 x2 x3 x4 x5 x6 x7
          obtain ⟨x0, x1, x2, x3, x4, x5, x6, x7, _⟩ := H6.out.1
          go_wp2_with fail
          refine (HS1.out _).mono ?_
          rintro e wH7 ⟨rfl, hb⟩
          have H7 := Lib.hid ((H6.out).step hb); clear hb
          try clear x0 x1 x2 x3 x4 x5 x6 x7
          obtain ⟨x0, x1, x2, x3, x4, x5, x6, x7, _⟩ := H7.out.1
          go_wp2_with fail
          refine (HS2.out _).mono ?_
          rintro e wH8 ⟨rfl, hb⟩
          have H8 := Lib.hid ((H7.out).step hb); clear hb
          try clear x0 x1 x2 x3 x4 x5 x6 x7
          obtain ⟨x0, x1, x2, x3, x4, x5, x6, x7, _⟩ := H8.out.1
          go_wp2_with fail
          go_ret
          exact ⟨ret_bool (by rw [HR.out]; simp [*]), H8.out.below⟩
    · go_enter Tryz.func170, Tryz.ntmps170
      go_wp2_with fail
      refine (HL.out _ HP.out).mono ?_
      rintro e wH1 ⟨rfl, hb⟩
      have H1 := Lib.hid ((H0.out).step hb); clear hb
      try clear x0 x1 x2 x3
      obtain ⟨x0, x1, x2, x3, _⟩ := H1.out.1
      go_wp2_with fail
      refine (HM.out _ (HP0.out.step H1.out.below)).mono ?_
      rintro e wH2 ⟨rfl, hb⟩
      have H2 := Lib.hid ((H1.out).step hb); clear hb
      try clear x0 x1 x2 x3
      obtain ⟨x0, x1, x2, x3, _⟩ := H2.out.1
      go_wp2_with fail
      refine (HE.out _ (HP0.out.step H2.out.below)).mono ?_
      rintro e wH3 ⟨rfl, hb⟩
      have H3 := Lib.hid ((H2.out).step hb); clear hb
      try clear x0 x1 x2 x3
      obtain ⟨x0, x1, x2, x3, _⟩ := H3.out.1
      obtain ⟨y0, y1, y2, y3, _⟩ := H3.out.2.1
      go_wp2_with fail
      refine (HG.out _ (HP0.out.step ((H3.out.alloc _).alloc _).below)).mono ?_
      rintro e w4 ⟨rfl, hb4⟩
      have H4 := Lib.hid (HF.out _ _ _ H3.out hb4); clear hb4
      clear x0 x1 x2 x3
      obtain ⟨⟨u0, u1, u2, u3, _⟩, ⟨v0, _, v1, _, _⟩, hfour⟩ := H4.out
      clear hfour
      go_wp2_with fail
      any_goals (go_ret; exact ⟨ret_bool (by rw [HR.out]; simp [*]), (H4.out.2.2 _ _).below⟩)
      all_goals
        refine (HB1.out _).mono ?_
        rintro e wH5 ⟨rfl, hb⟩
        have H5 := Lib.hid ((H4.out.2.2 _ _).step hb); clear hb
        try clear x0 x1 x2 x3 x4 x5 x6 x7
        obtain ⟨x0, x1, x2, x3, x4, x5, x6, x7, _⟩ := H5.out.1
        go_wp2_with fail
        refine (HB2.out _).mono ?_
        rintro e wH6 ⟨rfl, hb⟩
        have H6 := Lib.hid ((H5.out).step hb); clear hb
        try clear x0 x1 x2 x3 x4 x5 x6 x7
        obtain ⟨x0, x1, x2, x3, x4, x5, x6, x7, _⟩ := H6.out.1
        go_wp2_with fail
        go_ret
        exact ⟨ret_bool (by rw [HR.out]; simp [*]), H6.out.below⟩
  · go_enter Tryz.func170, Tryz.ntmps170
    go_wp2_with fail
    refine (HL.out _ HP.out).mono ?_
    rintro e wH1 ⟨rfl, hb⟩
    have H1 := Lib.hid ((H0.out).step hb); clear hb
    try clear x0 x1 x2 x3
    obtain ⟨x0, x1, x2, x3, _⟩ := H1.out.1
    go_wp2_with fail
    refine (HM.out _ (HP0.out.step H1.out.below)).mono ?_
    rintro e wH2 ⟨rfl, hb⟩
    have H2 := Lib.hid ((H1.out).step hb); clear hb
    try clear x0 x1 x2 x3
    obtain ⟨x0, x1, x2, x3, _⟩ := H2.out.1
    go_wp2_with fail
    refine (HE.out _ (HP0.out.step H2.out.below)).mono ?_
    rintro e wH3 ⟨rfl, hb⟩
    have H3 := Lib.hid ((H2.out).step hb); clear hb
    try clear x0 x1 x2 x3
    obtain ⟨x0, x1, x2, x3, _⟩ := H3.out.1
    obtain ⟨y0, y1, y2, y3, _⟩ := H3.out.2.1
    go_wp2_with fail
    refine (HG.out _ (HP0.out.step ((H3.out.alloc _).alloc _).below)).mono ?_
    rintro e w4 ⟨rfl, hb4⟩
    have H4 := Lib.hid (HF.out _ _ _ H3.out hb4); clear hb4
    clear x0 x1 x2 x3
    obtain ⟨⟨u0, u1, u2, u3, _⟩, ⟨v0, _, v1, _, _⟩, hfour⟩ := H4.out
    clear hfour
    go_wp2_with fail
    any_goals (go_ret; exact ⟨ret_bool (by rw [HR.out]; simp [*]), (H4.out.2.2 _ _).below⟩)
    all_goals
      refine (HB1.out _).mono ?_
      rintro e wH5 ⟨rfl, hb⟩
      have H5 := Lib.hid ((H4.out.2.2 _ _).step hb); clear hb
      try clear x0 x1 x2 x3 x4 x5 x6 x7
      obtain ⟨x0, x1, x2, x3, x4, x5, x6, x7, _⟩ := H5.out.1
      go_wp2_with fail
      go_ret
      exact ⟨ret_bool (by rw [HR.out]; simp [*]), H5.out.below⟩
end Go.Proofs.YtibgfbkepkjmbaaGreat
