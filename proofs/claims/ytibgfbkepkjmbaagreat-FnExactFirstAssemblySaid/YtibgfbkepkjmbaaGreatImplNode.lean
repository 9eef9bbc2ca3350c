/-
  What the program's functions on nodes return.
-/
import Derived.Test.YtibgfbkepkjmbaaGreatG1
import Derived.Deep.RegionHeld3
import Derived.BigGuardPart
import Derived.LoopTactic
import Derived.Deep.QuietTactic
import Derived.BigQuiet
import Derived.Deep.Draws
namespace Go.Proofs.YtibgfbkepkjmbaaGreat
open Go.RowKit
set_option linter.unusedVariables false
set_option linter.unusedSimpArgs false

theorem implOnBoard (n : Nd) (w : World) :
    Calls Tryz.prog 143 #[n.val] w (BoolIs (okB n) w) := by
  obtain ⟨x, y⟩ := n
  have hr : okB ⟨x, y⟩ = decide ((0 ≤ x ∧ x ≤ 20) ∧ (0 ≤ y ∧ y ≤ 20)) := by rw [Bool.eq_iff_iff, okB_iff]; simp
  unfold Nd.val
  generalize okB ⟨x, y⟩ = r at *
  have HR := Lib.hid hr; clear hr
  go_enter Tryz.func143, Tryz.ntmps143
  go_wp2
  all_goals
    go_ret
    exact ⟨ret_bool (by rw [HR.out, Bool.eq_iff_iff]; simp; omega), (Below.refl _ _).alloc (Nat.le_refl _) _⟩

theorem implAreOn (xs : List Nd) (g off cap : Nat) (w : World) (hlen : xs.length ≤ 1000) (hg : g < w.heap.size)
    (hc : ∀ k, k < xs.length → w.cell? ⟨g, off + k * 2, none⟩ = some (.int .i64 (xs.getD k ⟨0, 0⟩).x) ∧ w.cell? ⟨g, off + k * 2 + 1, none⟩ = some (.int .i64 (xs.getD k ⟨0, 0⟩).y)) :
    Calls Tryz.prog 168 #[.slice (some ⟨g, off, none⟩) xs.length cap] w (BoolIs (xs.all okB) w) := by
  have HC := Lib.hid hc; clear hc
  generalize hr : xs.all okB = r
  have HR := Lib.hid hr; clear hr
  go_enter Tryz.func168, Tryz.ntmps168
  go_wp2_with fail
  go_loopw [4, 7, 9, 10, 11, 12, 13] (fun _ i _ _ _ _ _ wr => ∃ k : Nat, k ≤ xs.length ∧ i = .int .i64 k ∧ (xs.take k).all okB = true ∧ Below w.heap.size w wr) (fun _ i _ _ _ _ _ _ => xs.length - (intOf i).toNat)
  case atStart => exact ⟨0, Nat.zero_le _, rfl, rfl, Below.refl _ _⟩
  case round =>
    obtain ⟨k, hk, rfl, ha, hb⟩ := hrel
    have HA := Lib.hid ha; clear ha
    by_cases hlt : k < xs.length
    · obtain ⟨c0, c1⟩ := HC.out k hlt
      have d0 : wr.cell? ⟨g, off + k * 2, none⟩ = _ := (hb.cell (p := ⟨g, _, none⟩) hg).trans c0
      have d1 : wr.cell? ⟨g, off + k * 2 + 1, none⟩ = _ := (hb.cell (p := ⟨g, _, none⟩) hg).trans c1
      clear c0 c1
      have hs := hb.size
      have HB := Lib.hid hb; clear hb
      have ht : xs.take (k + 1) = xs.take k ++ [xs.getD k ⟨0, 0⟩] := by
        rw [List.take_succ_eq_append_getElem hlt]; simp [List.getD, hlt]
      have HT := Lib.hid ht; clear ht
      have hm : xs.getD k ⟨0, 0⟩ ∈ xs := by simp [List.getD, hlt]
      generalize xs.getD k ⟨0, 0⟩ = n at *
      have HI := Lib.hid (implOnBoard n)
      unfold Nd.val at HI
      by_cases hn : okB n = true
      · rw [hn] at HI
        have HN := Lib.hid hn; clear hn
        go_wp2_with fail
        refine (HI.out _).mono ?_
        rintro e w1 ⟨rfl, hb1⟩
        have HB1 := Lib.hid ((HB.out.alloc hs _).trans (hb1.mono (by simp; omega))); clear hb1
        go_wp2_with fail
        go_roundw
        case rel => exact ⟨k + 1, by omega, by go_num, by rw [HT.out, List.all_append, HA.out]; simp [HN.out], HB1.out⟩
        case measure => simp [intOf]; omega
      · have hn' : okB n = false := by simpa using hn
        rw [hn'] at HI
        have HN := Lib.hid hn'; clear hn hn'
        go_wp2_with fail
        refine (HI.out _).mono ?_
        rintro e w1 ⟨rfl, hb1⟩
        have HB1 := Lib.hid ((HB.out.alloc hs _).trans (hb1.mono (by simp; omega))); clear hb1
        go_wp2_with fail
        go_ret
        refine ⟨ret_bool ?_, HB1.out⟩
        rw [← HR.out]
        exact (List.all_eq_false.2 ⟨n, hm, by simp [HN.out]⟩).symm
    · go_wp2_with fail
      go_ret
      refine ⟨ret_bool ?_, hb⟩
      have : k = xs.length := by omega
      subst this
      rw [← HR.out, ← HA.out, List.take_length]

def WayIs (a b : Nd) (w : World) (e : Ending) (w' : World) : Prop := e = .returned (.tuple #[.int .i64 (b.x - a.x), .int .i64 (b.y - a.y)]) ∧ Below w.heap.size w w'

theorem implWay (a b : Nd) (w : World) (ha : okB a = true) (hb : okB b = true) :
    Calls Tryz.prog 189 #[a.val, b.val] w (WayIs a b w) := by
  obtain ⟨ax, ay⟩ := a
  obtain ⟨bx, by'⟩ := b
  rw [okB_iff] at ha hb
  obtain ⟨⟨a1, a2⟩, a3, a4⟩ := ha
  obtain ⟨⟨b1, b2⟩, b3, b4⟩ := hb
  simp only at a1 a2 a3 a4 b1 b2 b3 b4
  unfold Nd.val
  have e1 : IntKind.i64.wrap (bx - ax) = bx - ax := IntWalk.i64_in _ (by omega)
  have e2 : IntKind.i64.wrap (by' - ay) = by' - ay := IntWalk.i64_in _ (by omega)
  go_enter Tryz.func189, Tryz.ntmps189
  go_wp2_with fail
  go_quiet (fail)
  go_wp2_with fail
  go_ret2
  exact ⟨rfl, below_drewN (below2 w _ _) _⟩

theorem implInBox (n a b : Nd) (w : World) :
    Calls Tryz.prog 186 #[n.val, a.val, b.val] w (BoolIs (inB n.x (min a.x b.x) (max a.x b.x) && inB n.y (min a.y b.y) (max a.y b.y)) w) := by
  obtain ⟨x, y⟩ := n
  obtain ⟨ax, ay⟩ := a
  obtain ⟨bx, by'⟩ := b
  unfold Nd.val
  have e1 := min_if ax bx
  have e2 := max_if ax bx
  have e3 := min_if ay by'
  have e4 := max_if ay by'
  simp only
  generalize min ax bx = m1 at *
  generalize max ax bx = m2 at *
  generalize min ay by' = m3 at *
  generalize max ay by' = m4 at *
  generalize hr : (inB x m1 m2 && inB y m3 m4) = r
  have HR := Lib.hid hr; clear hr
  go_enter Tryz.func186, Tryz.ntmps186
  go_wp2
  all_goals
    go_ret
    exact ⟨ret_bool (by rw [← HR.out, Bool.eq_iff_iff]; simp [inB]; omega), below3 w _ _ _⟩

theorem implAre3 (a b c : Nd) (g : Nat) (T : TypeId) (W : World) (hg : g = W.heap.size) :
    Calls Tryz.prog 168 #[.slice (some ⟨g, 0, none⟩) 3 3] (W.alloc (.cells #[.int .i64 a.x, .int .i64 a.y, .int .i64 b.x, .int .i64 b.y, .int .i64 c.x, .int .i64 c.y] T)) (BoolIs (okB a && (okB b && okB c)) (W.alloc (.cells #[.int .i64 a.x, .int .i64 a.y, .int .i64 b.x, .int .i64 b.y, .int .i64 c.x, .int .i64 c.y] T))) := by
  subst hg
  have h := heap_alloc_new W (.cells #[.int .i64 a.x, .int .i64 a.y, .int .i64 b.x, .int .i64 b.y, .int .i64 c.x, .int .i64 c.y] T)
  generalize hw : W.alloc (.cells #[.int .i64 a.x, .int .i64 a.y, .int .i64 b.x, .int .i64 b.y, .int .i64 c.x, .int .i64 c.y] T) = w at *
  generalize W.heap.size = g at *
  have h1 := implAreOn [a, b, c] g 0 3 w (by simp) (lt_of_block h) (fun k hk => by
    have hk' : k = 0 ∨ k = 1 ∨ k = 2 := by simp at hk; omega
    rcases hk' with rfl | rfl | rfl <;> simp [World.cell?, h])
  have e : [a, b, c].all okB = (okB a && (okB b && okB c)) := by simp
  rw [e] at h1
  exact h1

theorem implAre2 (a b : Nd) (g : Nat) (T : TypeId) (W : World) (hg : g = W.heap.size) :
    Calls Tryz.prog 168 #[.slice (some ⟨g, 0, none⟩) 2 2] (W.alloc (.cells #[.int .i64 a.x, .int .i64 a.y, .int .i64 b.x, .int .i64 b.y] T)) (BoolIs (okB a && okB b) (W.alloc (.cells #[.int .i64 a.x, .int .i64 a.y, .int .i64 b.x, .int .i64 b.y] T))) := by
  subst hg
  have h := heap_alloc_new W (.cells #[.int .i64 a.x, .int .i64 a.y, .int .i64 b.x, .int .i64 b.y] T)
  generalize hw : W.alloc (.cells #[.int .i64 a.x, .int .i64 a.y, .int .i64 b.x, .int .i64 b.y] T) = w at *
  generalize W.heap.size = g at *
  have h1 := implAreOn [a, b] g 0 2 w (by simp) (lt_of_block h) (fun k hk => by
    have hk' : k = 0 ∨ k = 1 := by simp at hk; omega
    rcases hk' with rfl | rfl <;> simp [World.cell?, h])
  have e : [a, b].all okB = (okB a && okB b) := by simp
  rw [e] at h1
  exact h1

theorem implTurnOf (a b c : Nd) (w : World) :
    Calls Tryz.prog 185 #[a.val, b.val, c.val] w (IntIs (turnOf a b c) w) := by
  have hr : turnOf a b c = if okB a && okB b && okB c then turnI a b c else 0 := rfl
  rw [Bool.and_assoc] at hr
  have HR := Lib.hid hr; clear hr
  have HA := Lib.hid (fun g T W => implAre3 a b c g T W)
  have H0 := Lib.hid (held3 w a b c 106)
  generalize turnOf a b c = r at *
  by_cases hk : (okB a && (okB b && okB c)) = true
  · have hk' := hk
    simp only [Bool.and_eq_true] at hk'
    obtain ⟨ka, kb, kc⟩ := hk'
    have HB := Lib.hid (fun w => implWay a b w ka kb)
    have HC := Lib.hid (fun w => implWay a c w ka kc)
    rw [hk] at HA HR
    clear hk
    rw [okB_iff] at ka kb kc
    unfold turnI at HR
    obtain ⟨⟨a1, a2⟩, a3, a4⟩ := ka
    obtain ⟨⟨b1, b2⟩, b3, b4⟩ := kb
    obtain ⟨⟨c1, c2⟩, c3, c4⟩ := kc
    obtain ⟨ax, ay⟩ := a
    obtain ⟨bx, by'⟩ := b
    obtain ⟨cx, cy⟩ := c
    simp only at a1 a2 a3 a4 b1 b2 b3 b4 c1 c2 c3 c4 HR HA H0
    unfold Nd.val at HB HC ⊢
    unfold WayIs at HB HC
    simp only at HB HC
    obtain ⟨p1, p2⟩ := prod_bd (p := bx - ax) (q := cy - ay) 20 (by omega) (by omega) (by omega) (by omega)
    obtain ⟨q1, q2⟩ := prod_bd (p := by' - ay) (q := cx - ax) 20 (by omega) (by omega) (by omega) (by omega)
    go_enter Tryz.func185, Tryz.ntmps185
    go_wp2_with fail
    refine (HA.out _ _ _ (by simp)).mono ?_
    rintro e wH1 ⟨rfl, hb⟩
    have H1 := Lib.hid ((H0.out.alloc _).step hb); clear hb
    try clear x0 x1 x2 x3 x4 x5
    obtain ⟨x0, x1, x2, x3, x4, x5, _⟩ := H1.out.1
    go_wp2_with fail
    refine (HB.out _).mono ?_
    rintro e wH2 ⟨rfl, hb⟩
    have H2 := Lib.hid ((H1.out).step hb); clear hb
    try clear x0 x1 x2 x3 x4 x5
    obtain ⟨x0, x1, x2, x3, x4, x5, _⟩ := H2.out.1
    go_wp2_with fail
    refine (HC.out _).mono ?_
    rintro e wH3 ⟨rfl, hb⟩
    have H3 := Lib.hid ((H2.out).step hb); clear hb
    try clear x0 x1 x2 x3 x4 x5
    obtain ⟨x0, x1, x2, x3, x4, x5, _⟩ := H3.out.1
    go_wp2_with fail
    go_ret
    exact ⟨ret_int (by rw [HR.out]; simp), H3.out.below⟩
  · have hk' : (okB a && (okB b && okB c)) = false := by simpa using hk
    clear hk
    rw [hk'] at HA HR
    clear hk'
    obtain ⟨ax, ay⟩ := a
    obtain ⟨bx, by'⟩ := b
    obtain ⟨cx, cy⟩ := c
    unfold Nd.val
    simp only at HA H0
    go_enter Tryz.func185, Tryz.ntmps185
    go_wp2_with fail
    refine (HA.out _ _ _ (by simp)).mono ?_
    rintro e wH1 ⟨rfl, hb⟩
    have H1 := Lib.hid ((H0.out.alloc _).step hb); clear hb
    try clear x0 x1 x2 x3 x4 x5
    obtain ⟨x0, x1, x2, x3, x4, x5, _⟩ := H1.out.1
    go_wp2_with fail
    go_ret
    exact ⟨ret_int (by rw [HR.out]; rfl), H1.out.below⟩

theorem implHalf (a b : Nd) (w : World) :
    Calls Tryz.prog 192 #[a.val, b.val] w (IntIs (halfI a b) w) := by
  have hr : halfI a b = if a.y < b.y ∨ (b.y = a.y ∧ a.x < b.x) then 0 else 1 := rfl
  generalize halfI a b = r at *
  obtain ⟨ax, ay⟩ := a
  obtain ⟨bx, by'⟩ := b
  simp only at hr
  have HR := Lib.hid hr; clear hr
  unfold Nd.val
  go_enter Tryz.func192, Tryz.ntmps192
  go_wp2
  all_goals
    go_ret
    exact ⟨ret_int (by rw [HR.out]; first | (rw [if_pos (by omega)]; done) | (rw [if_neg (by omega)]; done)), below2 w _ _⟩

theorem implBetween (a b c : Nd) (w : World) :
    Calls Tryz.prog 179 #[a.val, b.val, c.val] w (BoolIs (betweenB a b c) w) := by
  have hr : betweenB a b c = ((okB a && (okB b && okB c)) && decide (a ≠ b) && decide (b ≠ c) && decide (a ≠ c) && decide (turnI a b c = 0) && (inB c.x (min a.x b.x) (max a.x b.x) && inB c.y (min a.y b.y) (max a.y b.y))) := by
    unfold betweenB; rw [Bool.and_assoc (okB a)]
  have HR := Lib.hid hr; clear hr
  have HA := Lib.hid (fun g T w => implAre3 a b c g T w)
  have H0 := Lib.hid (held3 w a b c 106)
  have HX := Lib.hid (implInBox c a b)
  have ht : (okB a && (okB b && okB c)) = true → turnOf a b c = turnI a b c := by
    intro h; rw [← Bool.and_assoc] at h; unfold turnOf; rw [if_pos h]
  have HT := Lib.hid (implTurnOf a b c)
  have q1 := eqNd a b
  have q2 := eqNd a c
  have q3 := eqNd b c
  have g1 : decide (a ≠ b) = !decide (a = b) := by simp
  have g2 : decide (a ≠ c) = !decide (a = c) := by simp
  have g3 : decide (b ≠ c) = !decide (b = c) := by simp
  rw [g1, g2, g3] at HR
  generalize betweenB a b c = r at *
  generalize (inB c.x (min a.x b.x) (max a.x b.x) && inB c.y (min a.y b.y) (max a.y b.y)) = box at *
  generalize (okB a && (okB b && okB c)) = k at *
  generalize decide (a = b) = d1 at *
  generalize decide (a = c) = d2 at *
  generalize decide (b = c) = d3 at *
  generalize turnI a b c = t at *
  clear g1 g2 g3
  have HTE := Lib.hid ht; clear ht
  generalize turnOf a b c = t' at *
  obtain ⟨ax, ay⟩ := a
  obtain ⟨bx, by'⟩ := b
  obtain ⟨cx, cy⟩ := c
  simp only at HA H0 q1 q2 q3
  unfold Nd.val at HX HT ⊢
  cases k
  · go_enter Tryz.func179, Tryz.ntmps179
    go_wp2_with fail
    refine (HA.out _ _ _ (by simp)).mono ?_
    rintro e wH1 ⟨rfl, hb⟩
    have H1 := Lib.hid ((H0.out.alloc _).step hb); clear hb
    try clear x0 x1 x2 x3 x4 x5
    obtain ⟨x0, x1, x2, x3, x4, x5, _⟩ := H1.out.1
    go_wp2_with fail
    go_ret
    exact ⟨ret_bool (by rw [HR.out]; simp), H1.out.below⟩
  cases d1
  case true =>
    go_enter Tryz.func179, Tryz.ntmps179
    go_wp2_with fail
    refine (HA.out _ _ _ (by simp)).mono ?_
    rintro e wH1 ⟨rfl, hb⟩
    have H1 := Lib.hid ((H0.out.alloc _).step hb); clear hb
    try clear x0 x1 x2 x3 x4 x5
    obtain ⟨x0, x1, x2, x3, x4, x5, _⟩ := H1.out.1
    go_wp2_with fail
    go_ret
    exact ⟨ret_bool (by rw [HR.out]; simp), H1.out.below⟩
  cases d2
  case true =>
    go_enter Tryz.func179, Tryz.ntmps179
    go_wp2_with fail
    refine (HA.out _ _ _ (by simp)).mono ?_
    rintro e wH1 ⟨rfl, hb⟩
    have H1 := Lib.hid ((H0.out.alloc _).step hb); clear hb
    try clear x0 x1 x2 x3 x4 x5
    obtain ⟨x0, x1, x2, x3, x4, x5, _⟩ := H1.out.1
    go_wp2_with fail
    go_ret
    exact ⟨ret_bool (by rw [HR.out]; simp), H1.out.below⟩
  cases d3
  case true =>
    go_enter Tryz.func179, Tryz.ntmps179
    go_wp2_with fail
    refine (HA.out _ _ _ (by simp)).mono ?_
    rintro e wH1 ⟨rfl, hb⟩
    have H1 := Lib.hid ((H0.out.alloc _).step hb); clear hb
    try clear x0 x1 x2 x3 x4 x5
    obtain ⟨x0, x1, x2, x3, x4, x5, _⟩ := H1.out.1
    go_wp2_with fail
    go_ret
    exact ⟨ret_bool (by rw [HR.out]; simp), H1.out.below⟩
  have hte := HTE.out rfl
  subst hte
  by_cases ht0 : t' = 0
  · subst ht0
    go_enter Tryz.func179, Tryz.ntmps179
    go_wp2_with fail
    refine (HA.out _ _ _ (by simp)).mono ?_
    rintro e wH1 ⟨rfl, hb⟩
    have H1 := Lib.hid ((H0.out.alloc _).step hb); clear hb
    try clear x0 x1 x2 x3 x4 x5
    obtain ⟨x0, x1, x2, x3, x4, x5, _⟩ := H1.out.1
    go_wp2_with fail
    refine (HT.out _).mono ?_
    rintro e wH2 ⟨rfl, hb⟩
    have H2 := Lib.hid ((H1.out).step hb); clear hb
    try clear x0 x1 x2 x3 x4 x5
    obtain ⟨x0, x1, x2, x3, x4, x5, _⟩ := H2.out.1
    go_wp2_with fail
    refine (HX.out _).mono ?_
    rintro e wH3 ⟨rfl, hb⟩
    have H3 := Lib.hid ((H2.out).step hb); clear hb
    try clear x0 x1 x2 x3 x4 x5
    obtain ⟨x0, x1, x2, x3, x4, x5, _⟩ := H3.out.1
    go_wp2_with fail
    go_ret
    exact ⟨ret_bool (by rw [HR.out]; simp), H3.out.below⟩
  · have h5 : (t' == 0) = false := by rw [beq_eq_false_iff_ne]; exact ht0
    have HT0 := Lib.hid ht0; clear ht0
    go_enter Tryz.func179, Tryz.ntmps179
    go_wp2_with fail
    refine (HA.out _ _ _ (by simp)).mono ?_
    rintro e wH1 ⟨rfl, hb⟩
    have H1 := Lib.hid ((H0.out.alloc _).step hb); clear hb
    try clear x0 x1 x2 x3 x4 x5
    obtain ⟨x0, x1, x2, x3, x4, x5, _⟩ := H1.out.1
    go_wp2_with fail
    refine (HT.out _).mono ?_
    rintro e wH2 ⟨rfl, hb⟩
    have H2 := Lib.hid ((H1.out).step hb); clear hb
    try clear x0 x1 x2 x3 x4 x5
    obtain ⟨x0, x1, x2, x3, x4, x5, _⟩ := H2.out.1
    go_wp2_with fail
    go_ret
    exact ⟨ret_bool (by rw [HR.out]; simp [HT0.out]), H2.out.below⟩

theorem implBefore (a b c : Nd) (w : World) :
    Calls Tryz.prog 188 #[a.val, b.val, c.val] w (BoolIs (beforeB a b c) w) := by
  have hr : beforeB a b c = ((okB a && (okB b && okB c)) && (if halfI a b = halfI a c then decide (0 < turnI a b c) else decide (halfI a b < halfI a c))) := by
    unfold beforeB; rw [Bool.and_assoc (okB a)]
  have HR := Lib.hid hr; clear hr
  have HA := Lib.hid (fun g T w => implAre3 a b c g T w)
  have H0 := Lib.hid (held3 w a b c 106)
  have ht : (okB a && (okB b && okB c)) = true → turnOf a b c = turnI a b c := by
    intro h; rw [← Bool.and_assoc] at h; unfold turnOf; rw [if_pos h]
  have HT := Lib.hid (implTurnOf a b c)
  have HP := Lib.hid (implHalf a b)
  have HQ := Lib.hid (implHalf a c)
  generalize beforeB a b c = r at *
  generalize (okB a && (okB b && okB c)) = k at *
  generalize turnI a b c = t at *
  have HTE := Lib.hid ht; clear ht
  generalize turnOf a b c = t' at *
  generalize halfI a b = p at *
  generalize halfI a c = q at *
  obtain ⟨ax, ay⟩ := a
  obtain ⟨bx, by'⟩ := b
  obtain ⟨cx, cy⟩ := c
  simp only at HA H0
  unfold Nd.val at HT HP HQ ⊢
  cases k
  · go_enter Tryz.func188, Tryz.ntmps188
    go_wp2_with fail
    refine (HA.out _ _ _ (by simp)).mono ?_
    rintro e wH1 ⟨rfl, hb⟩
    have H1 := Lib.hid ((H0.out.alloc _).step hb); clear hb
    try clear x0 x1 x2 x3 x4 x5
    obtain ⟨x0, x1, x2, x3, x4, x5, _⟩ := H1.out.1
    go_wp2_with fail
    go_ret
    exact ⟨ret_bool (by rw [HR.out]; simp), H1.out.below⟩
  have hte := HTE.out rfl
  subst hte
  by_cases hpq : p = q
  · subst hpq
    go_enter Tryz.func188, Tryz.ntmps188
    go_wp2_with fail
    refine (HA.out _ _ _ (by simp)).mono ?_
    rintro e wH1 ⟨rfl, hb⟩
    have H1 := Lib.hid ((H0.out.alloc _).step hb); clear hb
    try clear x0 x1 x2 x3 x4 x5
    obtain ⟨x0, x1, x2, x3, x4, x5, _⟩ := H1.out.1
    go_wp2_with fail
    first | (go_region_held3 (fun w' => w'.cell? ⟨w.heap.size, 0, none⟩ = some (.int .i64 (ax)) ∧ w'.cell? ⟨w.heap.size, 1, none⟩ = some (.int .i64 (ay)) ∧ w'.cell? ⟨w.heap.size + 1, 0, none⟩ = some (.int .i64 (bx)) ∧ w'.cell? ⟨w.heap.size + 1, 1, none⟩ = some (.int .i64 (by')) ∧ w'.cell? ⟨w.heap.size + 1 + 1, 0, none⟩ = some (.int .i64 (cx)) ∧ w'.cell? ⟨w.heap.size + 1 + 1, 1, none⟩ = some (.int .i64 (cy))) (first | go_keep | (refine ⟨?_, ?_, ?_, ?_, ?_, ?_⟩ <;> assumption)) (first | (go_at_call 192; (first | (with_reducible refine (HP.out _).mono ?_) | (with_reducible refine (HQ.out _).mono ?_) | fail); rintro e wn ⟨rfl, hbn⟩; (first | (have HN1 := Lib.hid (H1.out.drew.step hbn)) | (have HN2 := Lib.hid (HN1.out.step hbn)) | fail); clear hbn; (first | (obtain ⟨x0, x1, x2, x3, x4, x5, _⟩ := HN2.out.1) | (obtain ⟨x0, x1, x2, x3, x4, x5, _⟩ := HN1.out.1) | fail)) | fail)) | fail
    have H2 := HN2
    clear HN1 HN2
    try clear x0 x1 x2 x3 x4 x5
    obtain ⟨x0, x1, x2, x3, x4, x5, _⟩ := H2.out.1
    go_wp2_with fail
    refine (HT.out _).mono ?_
    rintro e wH3 ⟨rfl, hb⟩
    have H3 := Lib.hid ((H2.out).step hb); clear hb
    try clear x0 x1 x2 x3 x4 x5
    obtain ⟨x0, x1, x2, x3, x4, x5, _⟩ := H3.out.1
    go_wp2_with fail
    go_ret
    exact ⟨ret_bool (by rw [HR.out]; simp), H3.out.below⟩
  · have h5 : (p == q) = false := by rw [beq_eq_false_iff_ne]; exact hpq
    have h6 : (p != q) = true := by rw [bne_iff_ne]; exact hpq
    have HPQ := Lib.hid hpq; clear hpq
    go_enter Tryz.func188, Tryz.ntmps188
    go_wp2_with fail
    refine (HA.out _ _ _ (by simp)).mono ?_
    rintro e wH1 ⟨rfl, hb⟩
    have H1 := Lib.hid ((H0.out.alloc _).step hb); clear hb
    try clear x0 x1 x2 x3 x4 x5
    obtain ⟨x0, x1, x2, x3, x4, x5, _⟩ := H1.out.1
    go_wp2_with fail
    first | (go_region_held3 (fun w' => w'.cell? ⟨w.heap.size, 0, none⟩ = some (.int .i64 (ax)) ∧ w'.cell? ⟨w.heap.size, 1, none⟩ = some (.int .i64 (ay)) ∧ w'.cell? ⟨w.heap.size + 1, 0, none⟩ = some (.int .i64 (bx)) ∧ w'.cell? ⟨w.heap.size + 1, 1, none⟩ = some (.int .i64 (by')) ∧ w'.cell? ⟨w.heap.size + 1 + 1, 0, none⟩ = some (.int .i64 (cx)) ∧ w'.cell? ⟨w.heap.size + 1 + 1, 1, none⟩ = some (.int .i64 (cy))) (first | go_keep | (refine ⟨?_, ?_, ?_, ?_, ?_, ?_⟩ <;> assumption)) (first | (go_at_call 192; (first | (with_reducible refine (HP.out _).mono ?_) | (with_reducible refine (HQ.out _).mono ?_) | fail); rintro e wn ⟨rfl, hbn⟩; (first | (have HN1 := Lib.hid (H1.out.drew.step hbn)) | (have HN2 := Lib.hid (HN1.out.step hbn)) | fail); clear hbn; (first | (obtain ⟨x0, x1, x2, x3, x4, x5, _⟩ := HN2.out.1) | (obtain ⟨x0, x1, x2, x3, x4, x5, _⟩ := HN1.out.1) | fail)) | fail)) | fail
    have H2 := HN2
    clear HN1 HN2
    try clear x0 x1 x2 x3 x4 x5
    obtain ⟨x0, x1, x2, x3, x4, x5, _⟩ := H2.out.1
    go_wp2_with fail
    go_ret
    exact ⟨ret_bool (by rw [HR.out, if_neg HPQ.out]; simp), H2.out.below⟩
end Go.Proofs.YtibgfbkepkjmbaaGreat
