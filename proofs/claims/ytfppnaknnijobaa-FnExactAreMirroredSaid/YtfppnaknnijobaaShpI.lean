/-
  Shapes: nodes moved, lists settled; of the program and of the model.
-/
import Derived.Test.YtfppnaknnijobaaShpP
import Derived.Test.YtfppnaknnijobaaDetN
import Derived.Test.YtfppnaknnijobaaImplNode
import Derived.Test.YtfppnaknnijobaaMarkO
import Derived.BigQuiet
namespace Go.Proofs.Ytfppnaknnijobaa
open Go.RowKit
set_option linter.unusedVariables false
set_option linter.unusedSimpArgs false

/-- Nodes in new memory, and not nil. -/
def OwnSome (T : TypeId) (xs : List Nd) (w : World) (e : Ending) (w' : World) : Prop := ∃ g c, e = .returned (.slice (some ⟨g, 0, none⟩) xs.length c) ∧ Own w' w.heap.size T (.slice (some ⟨g, 0, none⟩) xs.length c) xs ∧ Below w.heap.size w w'
theorem own_below {B : Nat} {W W' : World} {T : TypeId} {v : Value} {xs : List Nd} {o : Obj} (h : Own W B T v xs) (hB : B ≤ W.heap.size) (hg : (W.alloc o).grownBy W' v.ownBlock) : Below B W W' :=
  ((Below.refl B W).alloc hB o).grown hg (by simp; omega) fun k e => (h.own k e).1
theorem own_some {w : World} {B : Nat} {T : TypeId} {v : Value} {xs : List Nd} (h : Own w B T v xs) (h0 : 0 < xs.length) : ∃ g c, v = .slice (some ⟨g, 0, none⟩) xs.length c := by
  obtain ⟨a, c, rfl, _, _, hc⟩ := h.form
  rcases hc with ⟨-, h1⟩ | ⟨g, rfl, _⟩
  · rw [h1] at h0; simp at h0
  · exact ⟨g, c, rfl⟩
theorem own_one {w' : World} {B : Nat} {T : TypeId} {v : Value} {xs : List Nd} {x y : Int} (h : w'.ownsRow B T 2 v (xs.length + 1) (cellsP xs ++ [.int .i64 x, .int .i64 y])) : Own w' B T v (xs ++ [⟨x, y⟩]) := Own.more (ys := [⟨x, y⟩]) h
theorem two_news {w : World} {b : Nat} {x y : Value} (h0 : w.cell? ⟨b, 0, none⟩ = some x) (h1 : w.cell? ⟨b, 1, none⟩ = some y) : ∀ j u, [x, y][j]? = some u → w.cell? ((⟨b, 0, none⟩ : Addr).add j) = some u := by
  intro j u h
  match j, h with
  | 0, h => simp at h; subst h; simpa [Addr.add] using h0
  | 1, h => simp at h; subst h; simpa [Addr.add] using h1
  | j + 2, h => simp at h

theorem implTl (n : Nd) (w : World) (h : okB n = true) :
    Calls Try.prog 89 #[n.val] w (NodeIs (tlN n) w) := by
  have b := (okB_iff n).1 h
  obtain ⟨x, y⟩ := n
  unfold NodeIs Nd.val tlN
  simp only at b ⊢
  have e1 : IntKind.i64.wrap (-y) = -y := IntWalk.i64_in _ (by omega)
  go_enter Try.func89, Try.ntmps89
  go_wp2_with fail
  refine bodyPost_ret (v := .agg #[.int .i64 (-y), .int .i64 x]) (by simp [results, Try.results89, go_sem]) rfl ⟨rfl, below2 w _ _⟩

theorem implMr (n : Nd) (w : World) (h : okB n = true) :
    Calls Try.prog 91 #[n.val] w (NodeIs (mrN n) w) := by
  have b := (okB_iff n).1 h
  obtain ⟨x, y⟩ := n
  unfold NodeIs Nd.val mrN
  simp only at b ⊢
  have e1 : IntKind.i64.wrap (-x) = -x := IntWalk.i64_in _ (by omega)
  go_enter Try.func91, Try.ntmps91
  go_wp2_with fail
  refine bodyPost_ret (v := .agg #[.int .i64 (-x), .int .i64 y]) (by simp [results, Try.results91, go_sem]) rfl ⟨rfl, below2 w _ _⟩

set_option maxRecDepth 100000 in
theorem implBef (a b : Nd) (w : World) :
    Calls Try.prog 117 #[a.val, b.val] w (BoolIs (befB a b) w) := by
  have HR := Lib.hid (befB_iff a b)
  have H0 := Lib.hid (((Held.none_ w).new2 w.heap.size rfl [.int .i64 a.x, .int .i64 a.y] 49).new2 (w.heap.size + 1) (by simp) [.int .i64 b.x, .int .i64 b.y] 49)
  simp only [newFs, List.cons_append, List.nil_append, List.append_nil] at H0
  generalize befB a b = r at *
  obtain ⟨ax, ay⟩ := a
  obtain ⟨bx, by'⟩ := b
  unfold Nd.val
  simp only at HR H0
  obtain ⟨x0, x1, x2, x3, _⟩ := H0.out.1
  go_enter Try.func117, Try.ntmps117
  by_cases h1 : ay < by'
  · have HRT := Lib.hid (HR.out.2 (.inl h1))
    go_wp2_with fail
    go_ret
    exact ⟨ret_bool HRT.out.symm, H0.out.below⟩
  by_cases h2 : ay = by'
  · have h2b : (ay == by') = true := by simpa using h2
    by_cases h3 : ax < bx
    · have HRT := Lib.hid (HR.out.2 (.inr ⟨h2, h3⟩))
      subst h2
      go_wp2_with fail
      go_ret
      exact ⟨ret_bool HRT.out.symm, H0.out.below⟩
    · have HRT := Lib.hid (show r = false from by
        by_cases hr : r = true
        · have := HR.out.1 hr; omega
        · simpa using hr)
      subst h2
      go_wp2_with fail
      all_goals
        go_ret
        exact ⟨ret_bool (by rw [HRT.out] <;> (first | rfl | (simp; omega))), H0.out.below⟩
  · have h2b : (ay == by') = false := by simpa using h2
    have HRT := Lib.hid (show r = false from by
      by_cases hr : r = true
      · have := HR.out.1 hr; omega
      · simpa using hr)
    go_wp2_with fail
    all_goals
      go_ret
      exact ⟨ret_bool (by rw [HRT.out] <;> (first | rfl | (simp; omega))), H0.out.below⟩

theorem implWayS (a b : Nd) (w : World) (h1 : -1000 ≤ a.x ∧ a.x ≤ 1000) (h2 : -1000 ≤ a.y ∧ a.y ≤ 1000) (h3 : -1000 ≤ b.x ∧ b.x ≤ 1000) (h4 : -1000 ≤ b.y ∧ b.y ≤ 1000) :
    Calls Try.prog 118 #[a.val, b.val] w (WayIs a b w) := by
  obtain ⟨ax, ay⟩ := a
  obtain ⟨bx, by'⟩ := b
  simp only at h1 h2 h3 h4
  unfold Nd.val
  have e1 : IntKind.i64.wrap (bx - ax) = bx - ax := IntWalk.i64_in _ (by omega)
  have e2 : IntKind.i64.wrap (by' - ay) = by' - ay := IntWalk.i64_in _ (by omega)
  go_enter Try.func118, Try.ntmps118
  go_wp2_with fail
  go_quiet (fail)
  go_wp2_with fail
  go_ret2
  exact ⟨rfl, below_drewN (below2 w _ _) _⟩

/-- The first k nodes, moved. -/
def movN (f : Nd → Nd) (xs : List Nd) (k : Nat) : List Nd := (xs.take k).map f
theorem movN_succ (f : Nd → Nd) {xs : List Nd} {k : Nat} (h : k < xs.length) : movN f xs (k + 1) = movN f xs k ++ [f (atN xs k)] := by
  unfold movN
  rw [take_atN h, List.map_append]
  rfl
theorem movN_len (f : Nd → Nd) {xs : List Nd} (k : Nat) (h : k ≤ xs.length) : (movN f xs k).length = k := by
  unfold movN
  rw [List.length_map, List.length_take]
  omega
theorem movN_all (f : Nd → Nd) (xs : List Nd) : movN f xs xs.length = xs.map f := by
  unfold movN
  rw [List.take_length]

set_option maxRecDepth 100000 in
set_option maxHeartbeats 1000000 in
theorem implMovTl (xs : List Nd) (v : Value) (w : World) (hv : Prs w v xs) (hl : xs.length ≤ 1048576) (hok : ∀ k, k < xs.length → okB (atN xs k) = true) :
    Calls Try.prog 88 #[.func (.func 89) #[] #[], v] w (OwnSome 49 (xs.map tlN) w) := by
  have HF := Lib.hid (fun k (hk : k < xs.length) w => implTl (atN xs k) w (hok k hk))
  have hlen := hv.len
  have HN := Lib.hid hv
  obtain ⟨A, c, rfl⟩ := prs_form2 hv
  clear hv
  obtain ⟨i0, hi', hz0, hz1, hz2⟩ := info_parts infoNode
  have HI := Lib.hid (And.intro hi' (And.intro hz0 (And.intro hz1 hz2))); clear hi' hz0 hz1 hz2
  have HU := Lib.hid (fun m (h : m < xs.length) => movN_succ tlN h)
  have HLN := Lib.hid (fun m (h : m ≤ xs.length) => movN_len tlN m h)
  have HZ := Lib.hid (show movN tlN xs 0 = [] from rfl)
  have HE := Lib.hid (movN_all tlN xs)
  generalize xs.map tlN = R at *
  generalize movN tlN xs = X at *
  generalize tlN = f at *
  go_enter Try.func88, Try.ntmps88
  go_wp2_with fail
  go_loopw [5, 11] (fun u i wr => ∃ m : Nat, m ≤ xs.length ∧ i = .int .i64 m ∧ (∃ g c, u = .slice (some ⟨g, 0, none⟩) (X m).length c) ∧ Own wr w.heap.size 49 u (X m) ∧ Held w wr []) (fun _ i _ => xs.length - (intOf i).toNat)
  case atStart => exact ⟨0, Nat.zero_le _, rfl, ⟨_, _, by rw [HZ.out]; rfl⟩, by rw [HZ.out]; exact Own.made _ _ _ _ rfl (Nat.le_refl _), (Held.none_ w).alloc _⟩
  case round =>
    obtain ⟨m, hm, rfl, ⟨g, cg, rfl⟩, hown, hh⟩ := hrel
    have HO1 := Lib.hid hown; clear hown
    have H1 := Lib.hid hh; clear hh
    have q1 : (0 : Int) ≤ m := by omega
    by_cases hlt : m < xs.length
    · obtain ⟨bb, o, c', he, hbl, hcs⟩ := prs_at2 (HN.out.step H1.out.below) hlt
      injection he with he1 he2 he3
      subst he1
      obtain ⟨p0, p1⟩ := hcs m hlt
      clear hcs he2 he3
      have q2 : (m : Int) < (xs.length : Int) := by omega
      have HX := Lib.hid (HF.out m hlt)
      have HUM := Lib.hid (HU.out m hlt)
      have hln : (X m).length ≤ 1048576 := by have := HLN.out m hm; omega
      generalize f (atN xs m) = t at *
      generalize atN xs m = n at *
      obtain ⟨nx, ny⟩ := n
      obtain ⟨tx, ty⟩ := t
      unfold NodeIs Nd.val at HX
      simp only at HX p0 p1
      have H3 := Lib.hid (H1.out.new2 wr.heap.size rfl [.int .i64 nx, .int .i64 ny] 49)
      have HO3 := Lib.hid (HO1.out.step ((Below.refl _ _).alloc (Nat.le_refl _) (.cells #[.int .i64 nx, .int .i64 ny] 49)))
      go_wp2_with fail
      refine (HX.out _).mono ?_
      rintro e w4 ⟨rfl, hb4⟩
      have H2 := Lib.hid (H3.out.drop.step hb4)
      have HO2 := Lib.hid (HO3.out.step hb4); clear hb4 p0 p1
      obtain ⟨hi', hz0, hz1', hz2'⟩ := HI.out
      have hsz1 := H2.out.below.size
      have HT1 := Lib.hid ((Held.none_ w4).new2 w4.heap.size rfl [.int .i64 tx, .int .i64 ty] 49)
      obtain ⟨x0, x1, _⟩ := HT1.out.1
      go_wp2_with (at_builtin; refine wpList_append_own _ rfl _ _ 29 rfl w.heap.size 49 i0 (.agg #[.int .i64 0, .int .i64 0]) 2 16 Try.underlying29 hi' hz0 hz1' hz2' rfl (by decide) _ _ _ rfl (World.ownsRow.alloc HO2.out _) ⟨w4.heap.size, 0, none⟩ 1 1 [.int .i64 tx, .int .i64 ty] rfl rfl ?c1 ?c2 ?c3 ?c4 ?c5 ?_)
      try (case c1 => exact two_news x0 x1)
      case c2 => simp [Value.oneCell']
      case c3 => unfold maxLen; omega
      case c4 => omega
      case c5 => first | (simp; omega) | omega
      intro v' w5 hown hgrow _
      clear x0 x1
      have H5 := Lib.hid (H2.out.stepB (B := w.heap.size) trivial (own_below HO2.out hsz1 hgrow) (Nat.le_refl _))
      have HO5 := Lib.hid (own_one hown); clear hown hgrow
      go_wp2_with fail
      refine ⟨⟨m + 1, by omega, by go_num, ?_, by rw [HUM.out]; exact HO5.out, H5.out⟩, by simp [intOf]; omega⟩
      rw [HUM.out]
      obtain ⟨g9, cp, e9⟩ := own_some HO5.out (by simp)
      exact ⟨g9, cp, e9⟩
    · obtain rfl : m = xs.length := by omega
      go_wp2_with fail
      go_ret
      have e := HE.out
      rw [← e] at *
      exact ⟨_, _, rfl, HO1.out, H1.out.below⟩

set_option maxRecDepth 100000 in
set_option maxHeartbeats 1000000 in
theorem implMovMr (xs : List Nd) (v : Value) (w : World) (hv : Prs w v xs) (hl : xs.length ≤ 1048576) (hok : ∀ k, k < xs.length → okB (atN xs k) = true) :
    Calls Try.prog 88 #[.func (.func 91) #[] #[], v] w (OwnSome 49 (xs.map mrN) w) := by
  have HF := Lib.hid (fun k (hk : k < xs.length) w => implMr (atN xs k) w (hok k hk))
  have hlen := hv.len
  have HN := Lib.hid hv
  obtain ⟨A, c, rfl⟩ := prs_form2 hv
  clear hv
  obtain ⟨i0, hi', hz0, hz1, hz2⟩ := info_parts infoNode
  have HI := Lib.hid (And.intro hi' (And.intro hz0 (And.intro hz1 hz2))); clear hi' hz0 hz1 hz2
  have HU := Lib.hid (fun m (h : m < xs.length) => movN_succ mrN h)
  have HLN := Lib.hid (fun m (h : m ≤ xs.length) => movN_len mrN m h)
  have HZ := Lib.hid (show movN mrN xs 0 = [] from rfl)
  have HE := Lib.hid (movN_all mrN xs)
  generalize xs.map mrN = R at *
  generalize movN mrN xs = X at *
  generalize mrN = f at *
  go_enter Try.func88, Try.ntmps88
  go_wp2_with fail
  go_loopw [5, 11] (fun u i wr => ∃ m : Nat, m ≤ xs.length ∧ i = .int .i64 m ∧ (∃ g c, u = .slice (some ⟨g, 0, none⟩) (X m).length c) ∧ Own wr w.heap.size 49 u (X m) ∧ Held w wr []) (fun _ i _ => xs.length - (intOf i).toNat)
  case atStart => exact ⟨0, Nat.zero_le _, rfl, ⟨_, _, by rw [HZ.out]; rfl⟩, by rw [HZ.out]; exact Own.made _ _ _ _ rfl (Nat.le_refl _), (Held.none_ w).alloc _⟩
  case round =>
    obtain ⟨m, hm, rfl, ⟨g, cg, rfl⟩, hown, hh⟩ := hrel
    have HO1 := Lib.hid hown; clear hown
    have H1 := Lib.hid hh; clear hh
    have q1 : (0 : Int) ≤ m := by omega
    by_cases hlt : m < xs.length
    · obtain ⟨bb, o, c', he, hbl, hcs⟩ := prs_at2 (HN.out.step H1.out.below) hlt
      injection he with he1 he2 he3
      subst he1
      obtain ⟨p0, p1⟩ := hcs m hlt
      clear hcs he2 he3
      have q2 : (m : Int) < (xs.length : Int) := by omega
      have HX := Lib.hid (HF.out m hlt)
      have HUM := Lib.hid (HU.out m hlt)
      have hln : (X m).length ≤ 1048576 := by have := HLN.out m hm; omega
      generalize f (atN xs m) = t at *
      generalize atN xs m = n at *
      obtain ⟨nx, ny⟩ := n
      obtain ⟨tx, ty⟩ := t
      unfold NodeIs Nd.val at HX
      simp only at HX p0 p1
      have H3 := Lib.hid (H1.out.new2 wr.heap.size rfl [.int .i64 nx, .int .i64 ny] 49)
      have HO3 := Lib.hid (HO1.out.step ((Below.refl _ _).alloc (Nat.le_refl _) (.cells #[.int .i64 nx, .int .i64 ny] 49)))
      go_wp2_with fail
      refine (HX.out _).mono ?_
      rintro e w4 ⟨rfl, hb4⟩
      have H2 := Lib.hid (H3.out.drop.step hb4)
      have HO2 := Lib.hid (HO3.out.step hb4); clear hb4 p0 p1
      obtain ⟨hi', hz0, hz1', hz2'⟩ := HI.out
      have hsz1 := H2.out.below.size
      have HT1 := Lib.hid ((Held.none_ w4).new2 w4.heap.size rfl [.int .i64 tx, .int .i64 ty] 49)
      obtain ⟨x0, x1, _⟩ := HT1.out.1
      go_wp2_with (at_builtin; refine wpList_append_own _ rfl _ _ 29 rfl w.heap.size 49 i0 (.agg #[.int .i64 0, .int .i64 0]) 2 16 Try.underlying29 hi' hz0 hz1' hz2' rfl (by decide) _ _ _ rfl (World.ownsRow.alloc HO2.out _) ⟨w4.heap.size, 0, none⟩ 1 1 [.int .i64 tx, .int .i64 ty] rfl rfl ?c1 ?c2 ?c3 ?c4 ?c5 ?_)
      try (case c1 => exact two_news x0 x1)
      case c2 => simp [Value.oneCell']
      case c3 => unfold maxLen; omega
      case c4 => omega
      case c5 => first | (simp; omega) | omega
      intro v' w5 hown hgrow _
      clear x0 x1
      have H5 := Lib.hid (H2.out.stepB (B := w.heap.size) trivial (own_below HO2.out hsz1 hgrow) (Nat.le_refl _))
      have HO5 := Lib.hid (own_one hown); clear hown hgrow
      go_wp2_with fail
      refine ⟨⟨m + 1, by omega, by go_num, ?_, by rw [HUM.out]; exact HO5.out, H5.out⟩, by simp [intOf]; omega⟩
      rw [HUM.out]
      obtain ⟨g9, cp, e9⟩ := own_some HO5.out (by simp)
      exact ⟨g9, cp, e9⟩
    · obtain rfl : m = xs.length := by omega
      go_wp2_with fail
      go_ret
      have e := HE.out
      rw [← e] at *
      exact ⟨_, _, rfl, HO1.out, H1.out.below⟩
end Go.Proofs.Ytfppnaknnijobaa
