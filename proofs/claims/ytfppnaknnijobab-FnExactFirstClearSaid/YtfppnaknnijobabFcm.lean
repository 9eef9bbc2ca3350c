/-
  FirstClear, of the program and of the model.
-/
import Derived.Test.YtfppnaknnijobabFcl
namespace Go.Proofs.Ytfppnaknnijobab
open Go.RowKit
set_option linter.unusedVariables false
set_option linter.unusedSimpArgs false

/-- Three boxes: the sheet with its spots, the rectangle, the result's cells, still 0. -/
def Fb (w W : World) (sx sy px py : Int) (v : Value) : Prop :=
  Held w W [(w.heap.size + 1, 0, .int .i64 px), (w.heap.size + 1, 1, .int .i64 py), (w.heap.size, 0, .int .i64 sx), (w.heap.size, 1, .int .i64 sy), (w.heap.size, 2, v)] ∧ W.heap[w.heap.size + 1 + 1]? = some (.cells #[.int .i64 0, .int .i64 0] 82)
theorem Fb.step {w W W' : World} {sx sy px py : Int} {v : Value} (h : Fb w W sx sy px py v) (hb : Below W.heap.size W W') : Fb w W' sx sy px py v := ⟨h.1.step hb, (hb.block _ (lt_of_block h.2)).trans h.2⟩
theorem Fb.start (w : World) (sx sy px py : Int) (v : Value) : Fb w (((w.alloc (.cells #[.int .i64 sx, .int .i64 sy, v] 75)).alloc (.cells #[.int .i64 px, .int .i64 py] 60)).alloc (.cells #[.int .i64 0, .int .i64 0] 82)) sx sy px py v := by
  have h := (((Held.none_ w).new2 w.heap.size rfl [.int .i64 sx, .int .i64 sy, v] 75).new2 (w.heap.size + 1) (by simp) [.int .i64 px, .int .i64 py] 60).alloc (.cells #[.int .i64 0, .int .i64 0] 82)
  simp only [newFs, List.cons_append, List.nil_append, List.append_nil] at h
  refine ⟨h, ?_⟩
  have h1 := heap_alloc_new ((w.alloc (.cells #[.int .i64 sx, .int .i64 sy, v] 75)).alloc (.cells #[.int .i64 px, .int .i64 py] 60)) (.cells #[.int .i64 0, .int .i64 0] 82)
  rw [show ((w.alloc (.cells #[.int .i64 sx, .int .i64 sy, v] 75)).alloc (.cells #[.int .i64 px, .int .i64 py] 60)).heap.size = w.heap.size + 1 + 1 from by simp] at h1
  exact h1

set_option maxRecDepth 100000 in
set_option maxHeartbeats 1000000 in
theorem implFirst (s : Nd) (xs : List Nd) (v : Value) (p : Nd) (w : World) (hv : Prs w v xs) (hb : PrsIn xs) :
    Calls Try.prog 53 #[.agg #[.int .i64 s.x, .int .i64 s.y, v], p.val] w (NdOk (fclR s p xs) w) := by
  have HN := Lib.hid hv
  have HA := Lib.hid (fun w h => implFlw s xs v w h hb)
  have HB := Lib.hid (implSheet p)
  have HP := Lib.hid (fun (h1 : flwB s xs = true) (h2 : shB p = true) w hv => implPtr s xs v p w hv h1 h2)
  unfold PtrIs at HP
  have HNO := Lib.hid (fun h => fclR_no (s := s) (p := p) (xs := xs) h)
  have HYE := Lib.hid (fun r b h1 h2 h3 => fclR_yes (s := s) (p := p) (xs := xs) (r := r) (b := b) h1 h2 h3)
  obtain ⟨A, c, rfl⟩ := prs_form2 hv
  clear hv
  unfold NdOk
  generalize fclR s p xs = R at *
  generalize flwB s xs = d1 at *
  generalize shB p = d2 at *
  generalize FcIs s p xs = FC at *
  have HB9 := Lib.hid (Fb.start w s.x s.y p.x p.y (.slice A xs.length c))
  obtain ⟨px, py⟩ := p
  obtain ⟨sx, sy⟩ := s
  unfold Nd.val at *
  simp only at HB9 HA HB HP ⊢
  go_enter Try.func53, Try.ntmps53
  obtain ⟨⟨⟨x0, x1, x2, x3, x4, -⟩, -, -⟩, k9⟩ := HB9.out
  have z0 : _ = some (Value.int .i64 0) := (cell_of_cells (k := 0) k9).trans rfl
  have z1 : _ = some (Value.int .i64 0) := (cell_of_cells (k := 1) k9).trans rfl
  have f0 := free_of_cells (k := 0) k9
  have f1 := free_of_cells (k := 1) k9
  clear k9
  go_wp2_with fail
  clear x0 x1 x2 x3 x4 z0 z1 f0 f1
  generalize ((w.alloc (.cells #[.int .i64 sx, .int .i64 sy, .slice A xs.length c] 75)).alloc (.cells #[.int .i64 px, .int .i64 py] 60)).alloc (.cells #[.int .i64 0, .int .i64 0] 82) = W0 at *
  refine (HA.out _ (HN.out.step HB9.out.1.below)).mono ?_
  rintro e w1 ⟨rfl, hb1⟩
  have HB9 := Lib.hid (HB9.out.step hb1); clear hb1
  obtain ⟨⟨⟨x0, x1, x2, x3, x4, -⟩, -, -⟩, k9⟩ := HB9.out
  have z0 : _ = some (Value.int .i64 0) := (cell_of_cells (k := 0) k9).trans rfl
  have z1 : _ = some (Value.int .i64 0) := (cell_of_cells (k := 1) k9).trans rfl
  have f0 := free_of_cells (k := 0) k9
  have f1 := free_of_cells (k := 1) k9
  clear k9
  cases d1
  · obtain rfl := HNO.out (by rfl)
    go_wp2_with fail
    obtain ⟨r0, r1⟩ := put2z HB9.out.2 (.int .i64 0) (.int .i64 0)
    refine bodyPost_ret (v := .tuple #[.agg #[.int .i64 0, .int .i64 0], .bool false]) (by simp [results, Try.results53, go_sem, r0, r1]) rfl ⟨rfl, ?_⟩
    exact (HB9.out.1.below.setCell (p := ⟨_, _, none⟩) (by show w.heap.size ≤ w.heap.size + 1 + 1; omega) _).setCell (p := ⟨_, _, none⟩) (by show w.heap.size ≤ w.heap.size + 1 + 1; omega) _
  go_wp2_with fail
  clear x0 x1 x2 x3 x4 z0 z1 f0 f1
  refine (HB.out _).mono ?_
  rintro e w2 ⟨rfl, hb1⟩
  have HB9 := Lib.hid (HB9.out.step hb1); clear hb1
  obtain ⟨⟨⟨x0, x1, x2, x3, x4, -⟩, -, -⟩, k9⟩ := HB9.out
  have z0 : _ = some (Value.int .i64 0) := (cell_of_cells (k := 0) k9).trans rfl
  have z1 : _ = some (Value.int .i64 0) := (cell_of_cells (k := 1) k9).trans rfl
  have f0 := free_of_cells (k := 0) k9
  have f1 := free_of_cells (k := 1) k9
  clear k9
  cases d2
  · obtain rfl := HNO.out (by rfl)
    go_wp2_with fail
    obtain ⟨r0, r1⟩ := put2z HB9.out.2 (.int .i64 0) (.int .i64 0)
    refine bodyPost_ret (v := .tuple #[.agg #[.int .i64 0, .int .i64 0], .bool false]) (by simp [results, Try.results53, go_sem, r0, r1]) rfl ⟨rfl, ?_⟩
    exact (HB9.out.1.below.setCell (p := ⟨_, _, none⟩) (by show w.heap.size ≤ w.heap.size + 1 + 1; omega) _).setCell (p := ⟨_, _, none⟩) (by show w.heap.size ≤ w.heap.size + 1 + 1; omega) _
  go_wp2_with fail
  clear x0 x1 x2 x3 x4 z0 z1 f0 f1
  refine (HP.out (by trivial) (by trivial) _ (HN.out.step HB9.out.1.below)).mono ?_
  rintro e w3 ⟨hb1, hw⟩
  have HB9 := Lib.hid (HB9.out.step hb1); clear hb1
  rcases hw with ⟨rfl, hf⟩ | ⟨r, g, rfl, hf, hg, c0, c1⟩
  · obtain rfl := HYE.out _ _ (by trivial) (by trivial) hf
    clear hf
    obtain ⟨⟨⟨x0, x1, x2, x3, x4, -⟩, -, -⟩, k9⟩ := HB9.out
    have z0 : _ = some (Value.int .i64 0) := (cell_of_cells (k := 0) k9).trans rfl
    have z1 : _ = some (Value.int .i64 0) := (cell_of_cells (k := 1) k9).trans rfl
    have f0 := free_of_cells (k := 0) k9
    have f1 := free_of_cells (k := 1) k9
    clear k9
    go_wp2_with fail
    obtain ⟨r0, r1⟩ := put2z HB9.out.2 (.int .i64 0) (.int .i64 0)
    refine bodyPost_ret (v := .tuple #[.agg #[.int .i64 0, .int .i64 0], .bool false]) (by simp [results, Try.results53, go_sem, r0, r1]) rfl ⟨rfl, ?_⟩
    exact (HB9.out.1.below.setCell (p := ⟨_, _, none⟩) (by show w.heap.size ≤ w.heap.size + 1 + 1; omega) _).setCell (p := ⟨_, _, none⟩) (by show w.heap.size ≤ w.heap.size + 1 + 1; omega) _
  · obtain rfl := HYE.out _ _ (by trivial) (by trivial) hf
    clear hf
    obtain ⟨rx, ry⟩ := r
    simp only at c0 c1 ⊢
    obtain ⟨⟨⟨x0, x1, x2, x3, x4, -⟩, -, -⟩, k9⟩ := HB9.out
    have z0 : _ = some (Value.int .i64 0) := (cell_of_cells (k := 0) k9).trans rfl
    have z1 : _ = some (Value.int .i64 0) := (cell_of_cells (k := 1) k9).trans rfl
    have f0 := free_of_cells (k := 0) k9
    have f1 := free_of_cells (k := 1) k9
    clear k9
    go_wp2_with fail
    obtain ⟨r0, r1⟩ := put2z HB9.out.2 (.int .i64 rx) (.int .i64 ry)
    refine bodyPost_ret (v := .tuple #[.agg #[.int .i64 rx, .int .i64 ry], .bool true]) (by simp [results, Try.results53, go_sem, r0, r1]) rfl ⟨rfl, ?_⟩
    exact (HB9.out.1.below.setCell (p := ⟨_, _, none⟩) (by show w.heap.size ≤ w.heap.size + 1 + 1; omega) _).setCell (p := ⟨_, _, none⟩) (by show w.heap.size ≤ w.heap.size + 1 + 1; omega) _

set_option maxRecDepth 100000 in
set_option maxHeartbeats 2000000 in
theorem specFirst (s : Nd) (xs : List Nd) (v : Value) (p : Nd) (w : World) (hv : Prs w v xs) :
    Calls Try.prog 52 #[.agg #[.int .i64 s.x, .int .i64 s.y, v], p.val] w (NdOk (fclR s p xs) w) := by
  have HN := Lib.hid hv
  have hlen := hv.len
  have HA := Lib.hid (fun w h => specFlw s xs v w h)
  have HB := Lib.hid (specSheetOk p)
  have HNO := Lib.hid (fun h => fclR_no (s := s) (p := p) (xs := xs) h)
  have HYE := Lib.hid (fun r b h1 h2 h3 => fclR_yes (s := s) (p := p) (xs := xs) (r := r) (b := b) h1 h2 h3)
  have HBD := Lib.hid (fun (h1 : flwB s xs = true) (h2 : shB p = true) => And.intro (flw_bd h1) ((shB_iff p).1 h2))
  have HIN := Lib.hid (fun a n w h1 h2 h3 h4 => specIns a p n w h1 h2 h3 h4)
  have HBS := Lib.hid (fun a i => badT_succ a p xs i)
  have HB0 := Lib.hid (fun a => (show badT a p xs 0 = false from rfl))
  have HG := Lib.hid (fun (r : Nd) (h1 : clrB r p xs = true) (h2 : 0 ≤ r.x ∧ r.x ≤ s.x - p.x) (h3 : 0 ≤ r.y ∧ r.y ≤ s.y - p.y) (h4 : ∀ u v : Int, 0 ≤ u → u ≤ s.x - p.x → 0 ≤ v → (v < r.y ∨ v = r.y ∧ u < r.x) → clrB ⟨u, v⟩ p xs = false) => (show FcIs s p xs r true from .inl ⟨rfl, h1, h2, h3, h4⟩))
  have HE := Lib.hid (fun (h : ∀ u v : Int, 0 ≤ u → u ≤ s.x - p.x → 0 ≤ v → v ≤ s.y - p.y → clrB ⟨u, v⟩ p xs = false) => (show FcIs s p xs ⟨0, 0⟩ false from .inr ⟨rfl, rfl, h⟩))
  obtain ⟨A, c, rfl⟩ := prs_form2 hv
  clear hv
  unfold NdOk
  generalize fclR s p xs = R at *
  generalize flwB s xs = d1 at *
  generalize shB p = d2 at *
  generalize FcIs s p xs = FC at *
  obtain ⟨cl, hcl⟩ : ∃ f : Nd → Bool, f = fun a => clrB a p xs := ⟨_, rfl⟩
  have HCL := Lib.hid (fun a => (show clrB a p xs = cl a by rw [hcl]))
  have HG2 := Lib.hid (fun r (h1 : cl r = true) h2 h3 (h4 : ∀ u v : Int, 0 ≤ u → u ≤ s.x - p.x → 0 ≤ v → (v < r.y ∨ v = r.y ∧ u < r.x) → cl ⟨u, v⟩ = false) => HG.out r (by rw [HCL.out]; exact h1) h2 h3 (fun u v a b c d => by rw [HCL.out]; exact h4 u v a b c d))
  have HE2 := Lib.hid (fun (h : ∀ u v : Int, 0 ≤ u → u ≤ s.x - p.x → 0 ≤ v → v ≤ s.y - p.y → cl ⟨u, v⟩ = false) => HE.out (fun u v a b c d => by rw [HCL.out]; exact h u v a b c d))
  have HCB := Lib.hid (fun a => (show cl a = !badT a p xs xs.length by rw [← HCL.out, badT_all]))
  clear HG HE HCL hcl
  obtain ⟨bd, hbd⟩ : ∃ f : Nd → Nat → Bool, f = fun a i => badT a p xs i := ⟨_, rfl⟩
  obtain ⟨cv, hcv⟩ : ∃ f : Nd → Nd → Bool, f = fun a n => covB a p n := ⟨_, rfl⟩
  have HBS2 := Lib.hid (fun a i => (show bd a (i + 1) = (bd a i || cv a (atN xs i)) by rw [hbd, hcv]; exact HBS.out a i))
  have HB02 := Lib.hid (fun a => (show bd a 0 = false by rw [hbd]; exact HB0.out a))
  have HCB2 := Lib.hid (fun a => (show cl a = !bd a xs.length by rw [hbd]; exact HCB.out a))
  have HIN2 := Lib.hid (fun a n w h1 h2 h3 h4 => (show Calls Try.prog 94 #[n.val, a.val, p.val] w (BoolIs (cv a n) w) by rw [hcv]; exact HIN.out a n w h1 h2 h3 h4))
  clear hbd hcv HBS HB0 HCB HIN
  have HB9 := Lib.hid (Fb.start w s.x s.y p.x p.y (.slice A xs.length c))
  obtain ⟨px, py⟩ := p
  obtain ⟨sx, sy⟩ := s
  unfold Nd.val at *
  simp only at HB9 HA HB HBD HG2 HE2 HIN2 ⊢
  go_enter Try.func52, Try.ntmps52
  obtain ⟨⟨⟨x0, x1, x2, x3, x4, -⟩, -, -⟩, k9⟩ := HB9.out
  have z0 : _ = some (Value.int .i64 0) := (cell_of_cells (k := 0) k9).trans rfl
  have z1 : _ = some (Value.int .i64 0) := (cell_of_cells (k := 1) k9).trans rfl
  have f0 := free_of_cells (k := 0) k9
  have f1 := free_of_cells (k := 1) k9
  clear k9
  go_wp2_with fail
  clear x0 x1 x2 x3 x4 z0 z1 f0 f1
  generalize ((w.alloc (.cells #[.int .i64 sx, .int .i64 sy, .slice A xs.length c] 75)).alloc (.cells #[.int .i64 px, .int .i64 py] 60)).alloc (.cells #[.int .i64 0, .int .i64 0] 82) = W0 at *
  refine (HA.out _ (HN.out.step HB9.out.1.below)).mono ?_
  rintro e w1 ⟨rfl, hb1⟩
  have HB9 := Lib.hid (HB9.out.step hb1); clear hb1
  obtain ⟨⟨⟨x0, x1, x2, x3, x4, -⟩, -, -⟩, k9⟩ := HB9.out
  have z0 : _ = some (Value.int .i64 0) := (cell_of_cells (k := 0) k9).trans rfl
  have z1 : _ = some (Value.int .i64 0) := (cell_of_cells (k := 1) k9).trans rfl
  have f0 := free_of_cells (k := 0) k9
  have f1 := free_of_cells (k := 1) k9
  clear k9
  cases d1
  · obtain rfl := HNO.out (by rfl)
    go_wp2_with fail
    obtain ⟨r0, r1⟩ := put2z HB9.out.2 (.int .i64 0) (.int .i64 0)
    refine bodyPost_ret (v := .tuple #[.agg #[.int .i64 0, .int .i64 0], .bool false]) (by simp [results, Try.results52, go_sem, r0, r1]) rfl ⟨rfl, ?_⟩
    exact (HB9.out.1.below.setCell (p := ⟨_, _, none⟩) (by show w.heap.size ≤ w.heap.size + 1 + 1; omega) _).setCell (p := ⟨_, _, none⟩) (by show w.heap.size ≤ w.heap.size + 1 + 1; omega) _
  go_wp2_with fail
  clear x0 x1 x2 x3 x4 z0 z1 f0 f1
  refine (HB.out _).mono ?_
  rintro e w2 ⟨rfl, hb1⟩
  have HB9 := Lib.hid (HB9.out.step hb1); clear hb1
  obtain ⟨⟨⟨x0, x1, x2, x3, x4, -⟩, -, -⟩, k9⟩ := HB9.out
  have z0 : _ = some (Value.int .i64 0) := (cell_of_cells (k := 0) k9).trans rfl
  have z1 : _ = some (Value.int .i64 0) := (cell_of_cells (k := 1) k9).trans rfl
  have f0 := free_of_cells (k := 0) k9
  have f1 := free_of_cells (k := 1) k9
  clear k9
  cases d2
  · obtain rfl := HNO.out (by rfl)
    go_wp2_with fail
    obtain ⟨r0, r1⟩ := put2z HB9.out.2 (.int .i64 0) (.int .i64 0)
    refine bodyPost_ret (v := .tuple #[.agg #[.int .i64 0, .int .i64 0], .bool false]) (by simp [results, Try.results52, go_sem, r0, r1]) rfl ⟨rfl, ?_⟩
    exact (HB9.out.1.below.setCell (p := ⟨_, _, none⟩) (by show w.heap.size ≤ w.heap.size + 1 + 1; omega) _).setCell (p := ⟨_, _, none⟩) (by show w.heap.size ≤ w.heap.size + 1 + 1; omega) _
  obtain ⟨⟨⟨bx1, bx2⟩, ⟨by1, by2⟩, hl12, hsp⟩, ⟨bp1, bp2⟩, bp3, bp4⟩ := HBD.out (by trivial) (by trivial)
  have HSP := Lib.hid hsp; clear hsp
  have e1 : IntKind.i64.wrap (sx - px) = sx - px := IntWalk.i64_in _ (by omega)
  have e2 : IntKind.i64.wrap (sy - py) = sy - py := IntWalk.i64_in _ (by omega)
  clear HA HB HNO HBD
  go_wp2_with fail
  clear x0 x1 x2 x3 x4 z0 z1 f0 f1
  go_loopw [6] (fun vm wr => ∃ m : Nat, m ≤ 41 ∧ vm = .int .i64 m ∧ (∀ u v : Int, 0 ≤ u → u ≤ sx - px → 0 ≤ v → v < m → cl ⟨u, v⟩ = false) ∧ Fb w wr sx sy px py (.slice A xs.length c)) (fun vm _ => 50 - (intOf vm).toNat)
  case atStart => exact ⟨0, by omega, rfl, fun u v _ _ h1 h2 => by omega, HB9.out⟩
  case round =>
    clear HB9
    obtain ⟨m, hm, rfl, hno, hh⟩ := hrel
    have HNO := Lib.hid hno; clear hno
    have HB9 := Lib.hid hh; clear hh
    by_cases hlt : (m : Int) ≤ sy - py
    · obtain ⟨⟨⟨x0, x1, x2, x3, x4, -⟩, -, -⟩, k9⟩ := HB9.out
      have z0 : _ = some (Value.int .i64 0) := (cell_of_cells (k := 0) k9).trans rfl
      have z1 : _ = some (Value.int .i64 0) := (cell_of_cells (k := 1) k9).trans rfl
      have f0 := free_of_cells (k := 0) k9
      have f1 := free_of_cells (k := 1) k9
      clear k9
      go_wp2_with fail
      clear x0 x1 x2 x3 x4 z0 z1 f0 f1
      go_loopw [7] (fun vk wr2 => ∃ k : Nat, k ≤ 41 ∧ vk = .int .i64 k ∧ (∀ u : Int, 0 ≤ u → u ≤ sx - px → u < k → cl ⟨u, m⟩ = false) ∧ Fb w wr2 sx sy px py (.slice A xs.length c)) (fun vk _ => 50 - (intOf vk).toNat)
      case atStart => exact ⟨0, by omega, rfl, fun u h1 _ h2 => by omega, HB9.out⟩
      case round =>
        clear HB9
        obtain ⟨k, hk, rfl, hro, hh⟩ := hrel
        have HRO := Lib.hid hro; clear hro
        have HB9 := Lib.hid hh; clear hh
        by_cases hkt : (k : Int) ≤ sx - px
        · have HY := Lib.hid (fun (h : cl ⟨k, m⟩ = true) => HG2.out ⟨k, m⟩ h (by dsimp only; omega) (by dsimp only; omega) (fun u v a b c d => by
            rcases d with d | ⟨d1, d2⟩
            · exact HNO.out u v a b c d
            · simp only at d1 d2; rw [d1]; exact HRO.out u a b d2))
          have HZ := Lib.hid (fun (h : cl ⟨k, m⟩ = false) => (show ∀ u : Int, 0 ≤ u → u ≤ sx - px → u < ((k + 1 : Nat) : Int) → cl ⟨u, m⟩ = false from fun u a b d => by
            by_cases e : u = k
            · rw [e]; exact h
            · exact HRO.out u a b (by omega)))
          have HCK := Lib.hid (HCB2.out ⟨k, m⟩)
          have HBK := Lib.hid (HBS2.out ⟨k, m⟩)
          have HB0K := Lib.hid (HB02.out ⟨k, m⟩)
          have HIK := Lib.hid (fun n w h3 h4 => HIN2.out ⟨k, m⟩ n w (by dsimp only; omega) (by dsimp only; omega) h3 h4)
          simp only at HIK
          generalize cv ⟨k, m⟩ = cvk at *
          generalize bd ⟨k, m⟩ = bdk at *
          have HB8 := Lib.hid (HB9.out.step ((Below.refl _ _).alloc (Nat.le_refl _) (.cells #[.int .i64 (k : Int), .int .i64 (m : Int)] 82)))
          have KB := Lib.hid (heap_alloc_new wr (.cells #[.int .i64 (k : Int), .int .i64 (m : Int)] 82))
          obtain ⟨⟨⟨x0, x1, x2, x3, x4, -⟩, -, -⟩, k9⟩ := HB9.out
          have z0 : _ = some (Value.int .i64 0) := (cell_of_cells (k := 0) k9).trans rfl
          have z1 : _ = some (Value.int .i64 0) := (cell_of_cells (k := 1) k9).trans rfl
          have f0 := free_of_cells (k := 0) k9
          have f1 := free_of_cells (k := 1) k9
          clear k9
          go_wp2_with fail
          clear x0 x1 x2 x3 x4 z0 z1 f0 f1
          generalize hbk : wr.heap.size = B at *
          generalize wr.alloc (.cells #[.int .i64 (k : Int), .int .i64 (m : Int)] 82) = W3 at *
          clear hbk HB9
          go_loopw [9, 10] (fun vb vi wr3 => ∃ i : Nat, i ≤ xs.length ∧ vi = .int .i64 i ∧ vb = .bool (bdk i) ∧ Fb w wr3 sx sy px py (.slice A xs.length c) ∧ wr3.heap[B]? = some (.cells #[.int .i64 (k : Int), .int .i64 (m : Int)] 82)) (fun _ vi _ => xs.length - (intOf vi).toNat)
          case atStart => exact ⟨0, Nat.zero_le _, rfl, by rw [HB0K.out], HB8.out, KB.out⟩
          case round =>
            clear HB8 KB
            obtain ⟨i, hi, rfl, rfl, hh, hkb⟩ := hrel
            have HB9 := Lib.hid hh; clear hh
            have KB := Lib.hid hkb
            have HI9 := Lib.hid (HBK.out i)
            have n0 : _ = some (Value.int .i64 _) := (cell_of_cells (k := 0) hkb).trans rfl
            have n1 : _ = some (Value.int .i64 _) := (cell_of_cells (k := 1) hkb).trans rfl
            clear hkb
            have hz3 : (0 : Int) ≤ i := by omega
            by_cases hil : i < xs.length
            · have hz4 : (i : Int) < (xs.length : Int) := by omega
              obtain ⟨bb, o, c', he, hbl, hcs⟩ := prs_at2 (HN.out.step HB9.out.1.below) hil
              injection he with he1 he2 he3
              subst he1
              obtain ⟨p0, p1⟩ := hcs i hil
              clear hcs he2 he3
              have hbd := HSP.out i hil
              have HX := Lib.hid (fun w => HIK.out (atN xs i) w (by omega) (by omega))
              generalize cvk (atN xs i) = d at *
              generalize atN xs i = ni at *
              obtain ⟨ix, iy⟩ := ni
              simp only at p0 p1 HX
              clear hbd
              have hbB := lt_of_block KB.out
              obtain ⟨⟨⟨x0, x1, x2, x3, x4, -⟩, ⟨y0, -, y1, -⟩, -⟩, -⟩ := HB9.out
              have H2 := Lib.hid (show Held wr wr [(bb, o + i * 2, .int .i64 ix), (bb, o + i * 2 + 1, .int .i64 iy), (B, 0, .int .i64 k), (B, 1, .int .i64 m), (w.heap.size + 1, 0, .int .i64 px), (w.heap.size + 1, 1, .int .i64 py), (w.heap.size, 2, .slice (some ⟨bb, o, none⟩) xs.length c)] from ⟨⟨p0, p1, n0, n1, x0, x1, x4, trivial⟩, ⟨hbl, hbl, hbB, hbB, y0, y0, y1, trivial⟩, Below.refl _ _⟩)
              clear p0 p1 n0 n1 hbB y0 y1
              generalize hf : bdk i = f at *
              clear hf
              cases f
              · rw [Bool.false_or] at HI9
                go_wp2_with fail
                clear x0 x1 x2 x3 x4
                refine regionD (S := fun W => Held _ W [(bb, o + i * 2, .int .i64 (ix)), (bb, o + i * 2 + 1, .int .i64 (iy)), (B, 0, .int .i64 (k)), (B, 1, .int .i64 (m)), (w.heap.size + 1, 0, .int .i64 (px)), (w.heap.size + 1, 1, .int .i64 (py)), (w.heap.size, 2, .slice (some ⟨bb, o, none⟩) xs.length c)]) (by kernel_rfl) H2.out.drew ?_
                iterate 12 (refine takeT (v := ?_) rfl (by kernel_rfl) (by kernel_rfl) (by kernel_rfl) ?_ ?_; rotate_left; (first | (refine Or.inr ⟨by rfl, ?_⟩; with_reducible rfl) | (refine Or.inl ⟨by rfl, fun W hS => detRes_value (w' := W) ?_ hS⟩; obtain ⟨x0, x1, x2, x3, x4, x5, x6, _⟩ := hS.1; go_simp; first | done | with_reducible rfl) | (refine Or.inl ⟨by rfl, fun W hS => ?_⟩; refine detRes_call (w' := W) (f := ?_) (args := ?_) ?_ ?_; rotate_left 2; (go_simp; (refine ⟨?_, ?_⟩ <;> with_reducible rfl)); (first | (with_reducible refine (HX.out _).mono ?_) | fail); (first | (rintro e wn ⟨rfl, hb⟩; refine ⟨?_, hS.step hb⟩; with_reducible rfl) | (rintro e wn ⟨rfl, rfl⟩; refine ⟨?_, hS⟩; with_reducible rfl) | fail)) | fail); (simp only [Act.put, List.setIfInBounds_toArray, List.set_cons_zero, List.set_cons_succ]))
                refine doneD (by kernel_rfl) fun wH3 HS => ?_
                have H3 := Lib.hid HS; clear HS
                try clear x0 x1 x2 x3 x4 x5 x6
                obtain ⟨x0, x1, x2, x3, x4, x5, x6, _⟩ := H3.out.1
                go_wp2_with fail
                exact ⟨⟨i + 1, by omega, by go_num, by rw [HI9.out], HB9.out.step H3.out.below, (H3.out.below.block _ (lt_of_block KB.out)).trans KB.out⟩, by simp [intOf]; omega⟩
              · rw [Bool.true_or] at HI9
                go_wp2_with fail
                clear x0 x1 x2 x3 x4
                refine regionD (S := fun W => Held _ W [(bb, o + i * 2, .int .i64 (ix)), (bb, o + i * 2 + 1, .int .i64 (iy)), (B, 0, .int .i64 (k)), (B, 1, .int .i64 (m)), (w.heap.size + 1, 0, .int .i64 (px)), (w.heap.size + 1, 1, .int .i64 (py)), (w.heap.size, 2, .slice (some ⟨bb, o, none⟩) xs.length c)]) (by kernel_rfl) H2.out.drew ?_
                iterate 12 (refine takeT (v := ?_) rfl (by kernel_rfl) (by kernel_rfl) (by kernel_rfl) ?_ ?_; rotate_left; (first | (refine Or.inr ⟨by rfl, ?_⟩; with_reducible rfl) | (refine Or.inl ⟨by rfl, fun W hS => detRes_value (w' := W) ?_ hS⟩; obtain ⟨x0, x1, x2, x3, x4, x5, x6, _⟩ := hS.1; go_simp; first | done | with_reducible rfl) | (refine Or.inl ⟨by rfl, fun W hS => ?_⟩; refine detRes_call (w' := W) (f := ?_) (args := ?_) ?_ ?_; rotate_left 2; (go_simp; (refine ⟨?_, ?_⟩ <;> with_reducible rfl)); (first | (with_reducible refine (HX.out _).mono ?_) | fail); (first | (rintro e wn ⟨rfl, hb⟩; refine ⟨?_, hS.step hb⟩; with_reducible rfl) | (rintro e wn ⟨rfl, rfl⟩; refine ⟨?_, hS⟩; with_reducible rfl) | fail)) | fail); (simp only [Act.put, List.setIfInBounds_toArray, List.set_cons_zero, List.set_cons_succ]))
                refine doneD (by kernel_rfl) fun wH3 HS => ?_
                have H3 := Lib.hid HS; clear HS
                try clear x0 x1 x2 x3 x4 x5 x6
                obtain ⟨x0, x1, x2, x3, x4, x5, x6, _⟩ := H3.out.1
                go_wp2_with fail
                exact ⟨⟨i + 1, by omega, by go_num, by rw [HI9.out], HB9.out.step H3.out.below, (H3.out.below.block _ (lt_of_block KB.out)).trans KB.out⟩, by simp [intOf]; omega⟩
            · obtain rfl : i = xs.length := by omega
              have hz4 : ¬ (xs.length : Int) < (xs.length : Int) := by omega
              obtain ⟨⟨⟨x0, x1, x2, x3, x4, -⟩, -, -⟩, k9⟩ := HB9.out
              have z0 : _ = some (Value.int .i64 0) := (cell_of_cells (k := 0) k9).trans rfl
              have z1 : _ = some (Value.int .i64 0) := (cell_of_cells (k := 1) k9).trans rfl
              have f0 := free_of_cells (k := 0) k9
              have f1 := free_of_cells (k := 1) k9
              clear k9
              generalize hf : bdk xs.length = f at *
              clear hf
              cases f
              · obtain rfl := HYE.out _ _ (by trivial) (by trivial) (HY.out (by rw [HCK.out]; rfl))
                go_wp2_with fail
                obtain ⟨r0, r1⟩ := put2z HB9.out.2 (.int .i64 k) (.int .i64 m)
                refine bodyPost_ret (v := .tuple #[.agg #[.int .i64 k, .int .i64 m], .bool true]) (by simp [results, Try.results52, go_sem, r0, r1]) rfl ⟨rfl, ?_⟩
                exact (HB9.out.1.below.setCell (p := ⟨_, _, none⟩) (by show w.heap.size ≤ w.heap.size + 1 + 1; omega) _).setCell (p := ⟨_, _, none⟩) (by show w.heap.size ≤ w.heap.size + 1 + 1; omega) _
              · have HP := Lib.hid (HZ.out (by rw [HCK.out]; rfl))
                go_wp2_with fail
                exact ⟨⟨k + 1, by omega, by go_num, HP.out, HB9.out⟩, by simp [intOf]; omega⟩
        · have HP := Lib.hid (show ∀ u v : Int, 0 ≤ u → u ≤ sx - px → 0 ≤ v → v < ((m + 1 : Nat) : Int) → cl ⟨u, v⟩ = false from fun u v a b c' d => by
            by_cases e : v = m
            · rw [e]; exact HRO.out u a b (by omega)
            · exact HNO.out u v a b c' (by omega))
          obtain ⟨⟨⟨x0, x1, x2, x3, x4, -⟩, -, -⟩, k9⟩ := HB9.out
          have z0 : _ = some (Value.int .i64 0) := (cell_of_cells (k := 0) k9).trans rfl
          have z1 : _ = some (Value.int .i64 0) := (cell_of_cells (k := 1) k9).trans rfl
          have f0 := free_of_cells (k := 0) k9
          have f1 := free_of_cells (k := 1) k9
          clear k9
          go_wp2_with fail
          exact ⟨⟨m + 1, by omega, by go_num, HP.out, HB9.out⟩, by simp [intOf]; omega⟩
    · obtain rfl := HYE.out _ _ (by trivial) (by trivial) (HE2.out (fun u v a b c' d => HNO.out u v a b c' (by omega)))
      obtain ⟨⟨⟨x0, x1, x2, x3, x4, -⟩, -, -⟩, k9⟩ := HB9.out
      have z0 : _ = some (Value.int .i64 0) := (cell_of_cells (k := 0) k9).trans rfl
      have z1 : _ = some (Value.int .i64 0) := (cell_of_cells (k := 1) k9).trans rfl
      have f0 := free_of_cells (k := 0) k9
      have f1 := free_of_cells (k := 1) k9
      clear k9
      go_wp2_with fail
      obtain ⟨r0, r1⟩ := put2z HB9.out.2 (.int .i64 0) (.int .i64 0)
      refine bodyPost_ret (v := .tuple #[.agg #[.int .i64 0, .int .i64 0], .bool false]) (by simp [results, Try.results52, go_sem, r0, r1]) rfl ⟨rfl, ?_⟩
      exact (HB9.out.1.below.setCell (p := ⟨_, _, none⟩) (by show w.heap.size ≤ w.heap.size + 1 + 1; omega) _).setCell (p := ⟨_, _, none⟩) (by show w.heap.size ≤ w.heap.size + 1 + 1; omega) _
end Go.Proofs.Ytfppnaknnijobab
