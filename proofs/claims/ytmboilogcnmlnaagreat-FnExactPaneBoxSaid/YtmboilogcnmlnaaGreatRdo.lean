/-
  ReadingOrder, of the program and of the model.
-/
import Derived.Test.YtmboilogcnmlnaaGreatBox
import Derived.Test.YtmboilogcnmlnaaGreatSortR
import Derived.Test.YtmboilogcnmlnaaGreatDet2
import Derived.Test.YtmboilogcnmlnaaGreatGlsT
namespace Go.Proofs.YtmboilogcnmlnaaGreat
open Go.RowKit
set_option linter.unusedVariables false
set_option linter.unusedSimpArgs false

/-- The box of face f of the rows rs. -/
def bxR (ns ls : List Nd) (rs : List (List Int)) (f : Int) : Nd × Nd := bxL ns (bord ls (atR rs f.toNat)) (bord ls (atR rs f.toNat)).length

set_option maxRecDepth 100000 in
set_option maxHeartbeats 4000000 in
theorem rdCmp (v1 v2 v3 v4 : Value) (rs : List (List Int)) (ds : List Int) (ns ls : List Nd) (B B2 gb f h : Nat) (w : World) (hn : Prs w v1 ns) (hl : Prs w v2 ls) (hf : Faces w B v3 rs) (ha : Ints w B2 v4 ds) (hok : RowsOk ns ls rs) (hfk : f < rs.length) (hhk : h < rs.length) (h20 : ls.length ≤ 20)
    (x0 : w.cell? ⟨gb, 0, none⟩ = some v1) (x1 : w.cell? ⟨gb, 1, none⟩ = some v2) (x2 : w.cell? ⟨gb, 2, none⟩ = some v3) (x3 : w.cell? ⟨gb, 3, none⟩ = some v4) (hgb : gb < w.heap.size) :
    Calls Tryz.prog 98 #[.int .i64 f, .int .i64 h, .pointer (some ⟨gb, 0, none⟩)] w (IntIs (rcmp (bxR ns ls rs) f h) w) := by
  have HF := Lib.hid (fun W hb => implBoxG v1 v2 v3 v4 rs ds ns ls B B2 f W (hn.step hb) (hl.step hb) (hf.step hb) (ha.step hb) hok hfk h20)
  have HH := Lib.hid (fun W hb => implBoxG v1 v2 v3 v4 rs ds ns ls B B2 h W (hn.step hb) (hl.step hb) (hf.step hb) (ha.step hb) hok hhk h20)
  have H0 := Lib.hid (Held.start (w := w) (fs := [(gb, 0, v1), (gb, 1, v2), (gb, 2, v3), (gb, 3, v4)]) ⟨x0, x1, x2, x3, trivial⟩ ⟨hgb, hgb, hgb, hgb, trivial⟩)
  have HR := Lib.hid (show rcmp (bxR ns ls rs) f h = orZ (cmpZ (bxL ns (bord ls (atR rs h)) (bord ls (atR rs h)).length).2.y (bxL ns (bord ls (atR rs f)) (bord ls (atR rs f)).length).2.y) (cmpZ (bxL ns (bord ls (atR rs f)) (bord ls (atR rs f)).length).1.x (bxL ns (bord ls (atR rs h)) (bord ls (atR rs h)).length).1.x) (cmpZ f h) from rfl)
  obtain ⟨A, c, rfl⟩ := prs_form2 hn
  obtain ⟨A2, c2, rfl⟩ := prs_form2 hl
  obtain ⟨A3, c3, rfl⟩ := faces_form hf
  obtain ⟨A4, c4, rfl⟩ := ints_form ha
  clear hn hl hf ha hok hfk hhk h20 x0 x1 x2 x3 hgb
  unfold BoxIs at HF HH
  generalize rcmp (bxR ns ls rs) f h = res at *
  generalize bxL ns (bord ls (atR rs f)) (bord ls (atR rs f)).length = p at *
  generalize bxL ns (bord ls (atR rs h)) (bord ls (atR rs h)).length = q at *
  obtain ⟨⟨px, py⟩, ⟨pu, pv⟩⟩ := p
  obtain ⟨⟨qx, qy⟩, ⟨qu, qv⟩⟩ := q
  simp only at HF HH HR
  have C1 := Lib.hid (fun w => cmpZ_int qv pv w)
  have C2 := Lib.hid (fun w => cmpZ_int px qx w)
  have C3 := Lib.hid (fun w => cmpZ_int f h w)
  have HOR := Lib.hid (fun v w hv => orZ_int (cmpZ qv pv) (cmpZ px qx) (cmpZ f h) v w hv)
  rw [← HR.out] at HOR
  generalize cmpZ qv pv = k1 at *
  generalize cmpZ px qx = k2 at *
  generalize cmpZ (f : Int) (h : Int) = k3 at *
  unfold IntIs at C1 C2 C3 HOR
  clear HR
  obtain ⟨x0, x1, x2, x3, _⟩ := H0.out.1
  go_enter Tryz.func98, Tryz.ntmps98
  go_wp2_with fail
  refine (HF.out _ H0.out.below).mono ?_
  rintro e w1 ⟨rfl, hb⟩
  have H1 := Lib.hid (H0.out.step hb)
  clear hb x0 x1 x2 x3
  have K1 := Lib.hid ((H1.out.new2 w1.heap.size rfl [.int .i64 px, .int .i64 py] 39).new2 (w1.heap.size + 1) (by simp) [.int .i64 pu, .int .i64 pv] 39)
  simp only [newFs, List.cons_append, List.nil_append, List.append_nil] at K1
  obtain ⟨x0, x1, x2, x3, _⟩ := H1.out.1
  obtain ⟨z0, z1, z2, z3, _⟩ := H1.out.2.1
  go_wp2_with fail
  clear x0 x1 x2 x3 z0 z1 z2 z3
  refine (HH.out _ K1.out.below).mono ?_
  rintro e w2 ⟨rfl, hb⟩
  have K2 := Lib.hid (K1.out.step hb)
  clear hb
  have K3 := Lib.hid ((K2.out.new2 w2.heap.size rfl [.int .i64 qx, .int .i64 qy] 39).new2 (w2.heap.size + 1) (by simp) [.int .i64 qu, .int .i64 qv] 39)
  simp only [newFs, List.cons_append, List.nil_append, List.append_nil] at K3
  go_wp2_with fail
  obtain ⟨x0, x1, x2, x3, x4, x5, x6, x7, x8, x9, x10, x11, _⟩ := K3.out.1
  refine regionW (fun W => Held _ W [(w2.heap.size + 1, 0, .int .i64 (qu)), (w2.heap.size + 1, 1, .int .i64 (qv)), (w2.heap.size, 0, .int .i64 (qx)), (w2.heap.size, 1, .int .i64 (qy)), (w1.heap.size + 1, 0, .int .i64 (pu)), (w1.heap.size + 1, 1, .int .i64 (pv)), (w1.heap.size, 0, .int .i64 (px)), (w1.heap.size, 1, .int .i64 (py)), (gb, 0, .slice A ns.length c), (gb, 1, .slice A2 ls.length c2), (gb, 2, .slice A3 rs.length c3), (gb, 3, .slice A4 ds.length c4)]) (by kernel_rfl) K3.out.drew ?_
  refine takeW (i := 0) (v := ?_) (Stable.held _ _) rfl (by kernel_rfl) (by kernel_rfl) (by kernel_rfl) (fun _ _ _ h => h) ?_ ?_
  rotate_left
  · first | (refine Or.inl ⟨by rfl, fun W hS => detR_value (w' := W) ?_ (Below.refl _ _)⟩; have hH := hS; obtain ⟨x0, x1, x2, x3, x4, x5, x6, x7, x8, x9, x10, x11, _⟩ := hH.1; go_simp; first | done | with_reducible rfl) | fail
  simp only [Act.put, List.setIfInBounds_toArray, List.set_cons_zero, List.set_cons_succ]
  refine takeW (i := 1) (v := ?_) (Stable.held _ _) rfl (by kernel_rfl) (by kernel_rfl) (by kernel_rfl) (fun _ _ _ h => h) ?_ ?_
  rotate_left
  · first | (refine Or.inl ⟨by rfl, fun W hS => detR_value (w' := W) ?_ (Below.refl _ _)⟩; have hH := hS; obtain ⟨x0, x1, x2, x3, x4, x5, x6, x7, x8, x9, x10, x11, _⟩ := hH.1; go_simp; first | done | with_reducible rfl) | fail
  simp only [Act.put, List.setIfInBounds_toArray, List.set_cons_zero, List.set_cons_succ]
  refine takeW (i := 2) (v := ?_) (Stable.held _ _) rfl (by kernel_rfl) (by kernel_rfl) (by kernel_rfl) (fun _ _ _ h => h) ?_ ?_
  rotate_left
  · first | (refine Or.inl ⟨by rfl, fun W hS => detR_value (w' := W) ?_ (Below.refl _ _)⟩; have hH := hS; obtain ⟨x0, x1, x2, x3, x4, x5, x6, x7, x8, x9, x10, x11, _⟩ := hH.1; go_simp; first | done | with_reducible rfl) | fail
  simp only [Act.put, List.setIfInBounds_toArray, List.set_cons_zero, List.set_cons_succ]
  refine takeW (i := 3) (v := ?_) (Stable.held _ _) rfl (by kernel_rfl) (by kernel_rfl) (by kernel_rfl) (fun _ _ _ h => h) ?_ ?_
  rotate_left
  · first | (refine Or.inl ⟨by rfl, fun W hS => detR_value (w' := W) ?_ (Below.refl _ _)⟩; have hH := hS; obtain ⟨x0, x1, x2, x3, x4, x5, x6, x7, x8, x9, x10, x11, _⟩ := hH.1; go_simp; first | done | with_reducible rfl) | fail
  simp only [Act.put, List.setIfInBounds_toArray, List.set_cons_zero, List.set_cons_succ]
  refine takeW (i := 4) (v := ?_) (Stable.held _ _) rfl (by kernel_rfl) (by kernel_rfl) (by kernel_rfl) (fun _ _ _ h => h) ?_ ?_
  rotate_left
  · first | (refine Or.inl ⟨by rfl, fun W hS => ?_⟩; have hH := hS; refine detR_call (w' := W) (f := ?_) (args := ?_) ?_ ?_; rotate_left 2; (go_simp; (refine ⟨?_, ?_⟩ <;> with_reducible rfl)); (first | (with_reducible refine (C1.out _).mono ?_) | (with_reducible refine (C2.out _).mono ?_) | (with_reducible refine (C3.out _).mono ?_) | fail); (first | (rintro e wn ⟨rfl, hb⟩; refine ⟨?_, hb⟩; with_reducible rfl) | (rintro e wn ⟨rfl, rfl⟩; refine ⟨?_, Below.refl _ _⟩; with_reducible rfl) | fail)) | fail
  simp only [Act.put, List.setIfInBounds_toArray, List.set_cons_zero, List.set_cons_succ]
  refine takeW (i := 5) (v := ?_) (Stable.held _ _) rfl (by kernel_rfl) (by kernel_rfl) (by kernel_rfl) (fun _ _ _ h => h) ?_ ?_
  rotate_left
  · first | (refine Or.inl ⟨by rfl, fun W hS => detR_value (w' := W) ?_ (Below.refl _ _)⟩; have hH := hS; obtain ⟨x0, x1, x2, x3, x4, x5, x6, x7, x8, x9, x10, x11, _⟩ := hH.1; go_simp; first | done | with_reducible rfl) | fail
  simp only [Act.put, List.setIfInBounds_toArray, List.set_cons_zero, List.set_cons_succ]
  refine takeW (i := 6) (v := ?_) (Stable.held _ _) rfl (by kernel_rfl) (by kernel_rfl) (by kernel_rfl) (fun _ _ _ h => h) ?_ ?_
  rotate_left
  · first | (refine Or.inl ⟨by rfl, fun W hS => detR_value (w' := W) ?_ (Below.refl _ _)⟩; have hH := hS; obtain ⟨x0, x1, x2, x3, x4, x5, x6, x7, x8, x9, x10, x11, _⟩ := hH.1; go_simp; first | done | with_reducible rfl) | fail
  simp only [Act.put, List.setIfInBounds_toArray, List.set_cons_zero, List.set_cons_succ]
  refine takeW (i := 7) (v := ?_) (Stable.held _ _) rfl (by kernel_rfl) (by kernel_rfl) (by kernel_rfl) (fun _ _ _ h => h) ?_ ?_
  rotate_left
  · first | (refine Or.inl ⟨by rfl, fun W hS => detR_value (w' := W) ?_ (Below.refl _ _)⟩; have hH := hS; obtain ⟨x0, x1, x2, x3, x4, x5, x6, x7, x8, x9, x10, x11, _⟩ := hH.1; go_simp; first | done | with_reducible rfl) | fail
  simp only [Act.put, List.setIfInBounds_toArray, List.set_cons_zero, List.set_cons_succ]
  refine takeW (i := 8) (v := ?_) (Stable.held _ _) rfl (by kernel_rfl) (by kernel_rfl) (by kernel_rfl) (fun _ _ _ h => h) ?_ ?_
  rotate_left
  · first | (refine Or.inl ⟨by rfl, fun W hS => detR_value (w' := W) ?_ (Below.refl _ _)⟩; have hH := hS; obtain ⟨x0, x1, x2, x3, x4, x5, x6, x7, x8, x9, x10, x11, _⟩ := hH.1; go_simp; first | done | with_reducible rfl) | fail
  simp only [Act.put, List.setIfInBounds_toArray, List.set_cons_zero, List.set_cons_succ]
  refine takeW (i := 9) (v := ?_) (Stable.held _ _) rfl (by kernel_rfl) (by kernel_rfl) (by kernel_rfl) (fun _ _ _ h => h) ?_ ?_
  rotate_left
  · first | (refine Or.inl ⟨by rfl, fun W hS => ?_⟩; have hH := hS; refine detR_call (w' := W) (f := ?_) (args := ?_) ?_ ?_; rotate_left 2; (go_simp; (refine ⟨?_, ?_⟩ <;> with_reducible rfl)); (first | (with_reducible refine (C1.out _).mono ?_) | (with_reducible refine (C2.out _).mono ?_) | (with_reducible refine (C3.out _).mono ?_) | fail); (first | (rintro e wn ⟨rfl, hb⟩; refine ⟨?_, hb⟩; with_reducible rfl) | (rintro e wn ⟨rfl, rfl⟩; refine ⟨?_, Below.refl _ _⟩; with_reducible rfl) | fail)) | fail
  simp only [Act.put, List.setIfInBounds_toArray, List.set_cons_zero, List.set_cons_succ]
  refine takeW (i := 10) (v := ?_) (Stable.held _ _) rfl (by kernel_rfl) (by kernel_rfl) (by kernel_rfl) (fun _ _ _ h => h) ?_ ?_
  rotate_left
  · first | (refine Or.inl ⟨by rfl, fun W hS => detR_value (w' := W) ?_ (Below.refl _ _)⟩; have hH := hS; obtain ⟨x0, x1, x2, x3, x4, x5, x6, x7, x8, x9, x10, x11, _⟩ := hH.1; go_simp; first | done | with_reducible rfl) | fail
  simp only [Act.put, List.setIfInBounds_toArray, List.set_cons_zero, List.set_cons_succ]
  refine takeW (i := 11) (v := ?_) (Stable.held _ _) rfl (by kernel_rfl) (by kernel_rfl) (by kernel_rfl) (fun _ _ _ h => h) ?_ ?_
  rotate_left
  · first | (refine Or.inl ⟨by rfl, fun W hS => detR_value (w' := W) ?_ (Below.refl _ _)⟩; have hH := hS; obtain ⟨x0, x1, x2, x3, x4, x5, x6, x7, x8, x9, x10, x11, _⟩ := hH.1; go_simp; first | done | with_reducible rfl) | fail
  simp only [Act.put, List.setIfInBounds_toArray, List.set_cons_zero, List.set_cons_succ]
  refine takeW (i := 12) (v := ?_) (Stable.held _ _) rfl (by kernel_rfl) (by kernel_rfl) (by kernel_rfl) (fun _ _ _ h => h) ?_ ?_
  rotate_left
  · first | (refine Or.inl ⟨by rfl, fun W hS => ?_⟩; have hH := hS; refine detR_call (w' := W) (f := ?_) (args := ?_) ?_ ?_; rotate_left 2; (go_simp; (refine ⟨?_, ?_⟩ <;> with_reducible rfl)); (first | (with_reducible refine (C1.out _).mono ?_) | (with_reducible refine (C2.out _).mono ?_) | (with_reducible refine (C3.out _).mono ?_) | fail); (first | (rintro e wn ⟨rfl, hb⟩; refine ⟨?_, hb⟩; with_reducible rfl) | (rintro e wn ⟨rfl, rfl⟩; refine ⟨?_, Below.refl _ _⟩; with_reducible rfl) | fail)) | fail
  simp only [Act.put, List.setIfInBounds_toArray, List.set_cons_zero, List.set_cons_succ]
  refine freeW (i := 13) (fun v W => Seq W v [k1, k2, k3]) (Stable.held _ _) (fun v => fun _ _ h hb => h.step hb) rfl (by kernel_rfl) (by rfl) (fun W hS => ?_) (fun v1 => ?_)
  · have hH := hS; exact freeR_threeZ (by go_simp; first | done | with_reducible rfl)
  simp only [Act.put, List.setIfInBounds_toArray, List.set_cons_zero, List.set_cons_succ]
  refine takeW (i := 14) (v := ?_) (Stable.and (Stable.held _ _) (fun _ _ h hb => h.step hb)) rfl (by kernel_rfl) (by kernel_rfl) (by kernel_rfl) (fun _ _ _ h => h) ?_ ?_
  rotate_left
  · first | (refine Or.inl ⟨by rfl, fun W hS => ?_⟩; obtain ⟨hH, r1⟩ := hS; refine detR_call (w' := W) (f := ?_) (args := ?_) ?_ ?_; rotate_left 2; (go_simp; (refine ⟨?_, ?_⟩ <;> with_reducible rfl)); (first | (with_reducible refine (HOR.out _ _ r1).mono ?_) | fail); (first | (rintro e wn ⟨rfl, hb⟩; refine ⟨?_, hb⟩; with_reducible rfl) | (rintro e wn ⟨rfl, rfl⟩; refine ⟨?_, Below.refl _ _⟩; with_reducible rfl) | fail)) | fail
  simp only [Act.put, List.setIfInBounds_toArray, List.set_cons_zero, List.set_cons_succ]
  refine takeW (i := 15) (v := ?_) (Stable.and (Stable.held _ _) (fun _ _ h hb => h.step hb)) rfl (by kernel_rfl) (by kernel_rfl) (by kernel_rfl) (fun _ _ _ h => h) ?_ ?_
  rotate_left
  · first | (refine Or.inl ⟨by rfl, fun W hS => detR_value (w' := W) ?_ (Below.refl _ _)⟩; obtain ⟨hH, r1⟩ := hS; obtain ⟨x0, x1, x2, x3, x4, x5, x6, x7, x8, x9, x10, x11, _⟩ := hH.1; go_simp; first | done | with_reducible rfl) | fail
  simp only [Act.put, List.setIfInBounds_toArray, List.set_cons_zero, List.set_cons_succ]
  refine doneW (by kernel_rfl) fun wH5 HG => ?_
  obtain ⟨hH, r1⟩ := HG
  have H5 := Lib.hid hH; clear hH
  have MH5_1 := Lib.hid r1; clear r1
  try clear x0 x1 x2 x3 x4 x5 x6 x7 x8 x9 x10 x11
  obtain ⟨x0, x1, x2, x3, x4, x5, x6, x7, x8, x9, x10, x11, _⟩ := H5.out.1
  go_wp2_with fail
  go_ret
  exact ⟨rfl, H5.out.below⟩

/-- The faces other than the wall around, in memory of its own that is not nil. -/
def SomeInts (xs : List Int) (w : World) (e : Ending) (w' : World) : Prop := ∃ g c, e = .returned (.slice (some ⟨g, 0, none⟩) xs.length c) ∧ Ints w' w.heap.size (.slice (some ⟨g, 0, none⟩) xs.length c) xs ∧ Below w.heap.size w w'

set_option maxRecDepth 100000 in
set_option maxHeartbeats 2000000 in
theorem implInnerS (ns ls : List Nd) (v1 v2 v3 v4 : Value) (rs : List (List Int)) (ds : List Int) (B : Nat) (w : World) (hn : Prs w v1 ns) (hl : Prs w v2 ls) (hf : Faces w B v3 rs) (ha : Ints w B v4 ds) (hok : RowsOk ns ls rs) :
    Calls Tryz.prog 96 #[.agg #[v1, v2, v3, v4]] w (SomeInts (fltN (innP (firstI (outP ns ls rs) rs.length)) rs.length) w) := by
  have h40 := hok.1
  have HS := Lib.hid (fun W hb => implOuter ns ls v1 v2 v3 v4 rs ds B W (hn.step hb) (hl.step hb) (hf.step hb) (ha.step hb) hok)
  unfold IntIs at HS
  obtain ⟨A, c, rfl⟩ := prs_form2 hn
  obtain ⟨A2, c2, rfl⟩ := prs_form2 hl
  obtain ⟨A3, c3, rfl⟩ := faces_form hf
  obtain ⟨A4, c4, rfl⟩ := ints_form ha
  have H0 := Lib.hid (heldG w (.slice A ns.length c) (.slice A2 ls.length c2) (.slice A3 rs.length c3) (.slice A4 ds.length c4) 66)
  obtain ⟨i0, hi, hz0, hz1, hz2⟩ := info_parts infoInt
  have HI := Lib.hid (And.intro hi (And.intro hz0 (And.intro hz1 hz2))); clear hi hz0 hz1 hz2
  clear hn hl hf ha hok
  generalize firstI (outP ns ls rs) rs.length = o at *
  have HP := Lib.hid (fun k => show innP o k = !((k : Int) == o) from rfl)
  have HU := Lib.hid (fltN_succ (innP o))
  have HLN := Lib.hid (fltN_len (innP o))
  have HZ := Lib.hid (show fltN (innP o) 0 = [] from rfl)
  generalize fltN (innP o) = X at *
  generalize innP o = p at *
  obtain ⟨x0, x1, x2, x3, _⟩ := H0.out.1
  go_enter Tryz.func96, Tryz.ntmps96
  go_wp2_with fail
  refine (HS.out _ H0.out.below).mono ?_
  rintro e w1 ⟨rfl, hb⟩
  have H1 := Lib.hid (H0.out.step hb); clear hb x0 x1 x2 x3 H0
  obtain ⟨x0, x1, x2, x3, _⟩ := H1.out.1
  obtain ⟨z0, z1, z2, z3, _⟩ := H1.out.2.1
  go_wp2_with fail
  clear x0 x1 x2 x3 z0 z1 z2 z3
  go_loopw [4, 12] (fun v i wr => ∃ m : Nat, m ≤ rs.length ∧ i = .int .i64 m ∧ (∃ g c, v = .slice (some ⟨g, 0, none⟩) (X m).length c) ∧ Ints wr (w.heap.size + 1) v (X m) ∧ Held w wr [(w.heap.size, 0, .slice A ns.length c), (w.heap.size, 1, .slice A2 ls.length c2), (w.heap.size, 2, .slice A3 rs.length c3), (w.heap.size, 3, .slice A4 ds.length c4)]) (fun _ i _ => rs.length - (intOf i).toNat)
  case atStart => exact ⟨0, Nat.zero_le _, rfl, ⟨_, _, by rw [HZ.out]; rfl⟩, by rw [HZ.out]; exact Ints.made _ _ _ rfl H1.out.2.1.1, H1.out.alloc _⟩
  case round =>
    clear H1
    obtain ⟨m, hm, rfl, ⟨g9, c9, rfl⟩, hown, hh⟩ := hrel
    have HO2 := Lib.hid hown; clear hown
    have H2 := Lib.hid hh; clear hh
    by_cases hlt : m < rs.length
    · have q1 : (0 : Int) ≤ m := by omega
      have q2 : (m : Int) < (rs.length : Int) := by omega
      have HUM := Lib.hid (HU.out m)
      have hln := HLN.out m
      have HPM := Lib.hid (HP.out m)
      obtain ⟨b, hb⟩ : ∃ b, ((m : Int) == o) = b := ⟨_, rfl⟩
      rw [hb] at HPM
      rw [HPM.out] at HUM
      have hn1 : ((m : Int) != o) = !b := by rw [← hb]; rfl
      cases b <;> simp only [Bool.not_true, Bool.not_false] at hn1
      · obtain ⟨hi, hz0, hz1, hz2⟩ := HI.out
        have hsz1 := H2.out.2.1.1
        go_wp2_with (at_builtin; refine wpList_append_own _ rfl _ _ 43 rfl (w.heap.size + 1) 3 i0 (.int .i64 0) 1 8 Tryz.underlying43 hi hz0 hz1 hz2 rfl (by decide) _ _ _ rfl (World.ownsRow.alloc HO2.out _) ⟨_, 0, none⟩ 1 1 [.int .i64 m] rfl rfl ?c1 ?c2 ?c3 ?c4 ?c5 ?_)
        case c1 => exact cell_one_new _ _ _
        case c2 => simp [Value.oneCell']
        case c3 => unfold maxLen; omega
        case c4 => omega
        case c5 => simp <;> omega
        intro v' w5 hown hgrow _
        have H5 := Lib.hid (H2.out.stepB (B := w.heap.size + 1) ⟨Nat.lt_succ_self _, Nat.lt_succ_self _, Nat.lt_succ_self _, Nat.lt_succ_self _, trivial⟩ (grown_below HO2.out hsz1 hgrow) (Nat.le_succ _))
        have HO5 := Lib.hid (Ints.more hown); clear hown hgrow
        go_wp2_with fail
        refine ⟨⟨m + 1, by omega, by go_num, ?_, by rw [HUM.out]; exact HO5.out, H5.out⟩, by simp [intOf]; omega⟩
        rw [HUM.out]
        obtain ⟨g8, c8, e8⟩ := HO5.out.some_ (by simp)
        exact ⟨g8, c8, e8⟩
      · go_wp2_with fail
        exact ⟨⟨m + 1, by omega, by go_num, ⟨g9, c9, by rw [HUM.out]; rfl⟩, by rw [HUM.out]; exact HO2.out, H2.out⟩, by simp [intOf]; omega⟩
    · obtain rfl : m = rs.length := by omega
      go_wp2_with fail
      go_ret
      exact ⟨_, _, rfl, HO2.out.mono (Nat.le_succ _), H2.out.below⟩

theorem insM_congr {lt lt' : Int → Int → Bool} {d : Int} {l : List Int} (h : ∀ y, y ∈ l → lt d y = lt' d y) : ∀ m, m ≤ l.length → insM lt d l m = insM lt' d l m
  | 0, _ => rfl
  | m + 1, hm => by
    have e : lt d (atZ l m) = lt' d (atZ l m) := h _ (by rw [← atZ_get (show m < l.length by omega)]; exact List.getElem_mem _)
    unfold insM
    rw [e, insM_congr h m (by omega)]

theorem sortL_congr {lt lt' : Int → Int → Bool} : ∀ (n : Nat) (xs : List Int), xs.length = n → (∀ x y, x ∈ xs → y ∈ xs → lt x y = lt' x y) → sortL lt xs = sortL lt' xs
  | 0, xs, h, _ => by obtain rfl := List.eq_nil_of_length_eq_zero h; rfl
  | n + 1, xs, h, hc => by
    have e : xs = xs.take n ++ [atZ xs n] := by
      rw [← atZ_get (by omega), ← List.take_succ_eq_append_getElem (by omega), List.take_of_length_le (by omega)]
    have ht : ∀ x, x ∈ xs.take n → x ∈ xs := fun x hx => List.mem_of_mem_take hx
    have hn : atZ xs n ∈ xs := by rw [← atZ_get (show n < xs.length by omega)]; exact List.getElem_mem _
    have ih := sortL_congr (lt := lt) (lt' := lt') n (xs.take n) (by simp; omega) fun x y hx hy => hc x y (ht x hx) (ht y hy)
    rw [e, sortL_more, sortL_more, ih]
    unfold insL
    exact insM_congr (fun y hy => hc _ _ hn (ht y (sortL_mem _ _ _ rfl y hy))) _ (Nat.le_refl _)

theorem read_congr (ns ls : List Nd) : sortL (ltR (bxR (gN ns ls) (gL ns ls) (wF ns ls))) (innW ns ls) = readL ns ls := by
  unfold readL
  refine sortL_congr _ _ rfl fun x y hx hy => ?_
  obtain ⟨f, hf, hf2, _⟩ := (fltN_mem (innP (outW ns ls)) (wF ns ls).length x).1 hx
  obtain ⟨h, hh, hh2, _⟩ := (fltN_mem (innP (outW ns ls)) (wF ns ls).length y).1 hy
  subst hf; subst hh
  have e1 : bxR (gN ns ls) (gL ns ls) (wF ns ls) f = boxW ns ls f := g_box hf2
  have e2 : bxR (gN ns ls) (gL ns ls) (wF ns ls) h = boxW ns ls h := g_box hh2
  unfold ltR rcmp
  rw [e1, e2]

set_option maxRecDepth 100000 in
set_option maxHeartbeats 1000000 in
theorem implReadG (v1 v2 v3 v4 : Value) (rs : List (List Int)) (ds : List Int) (ns ls : List Nd) (B : Nat) (w : World) (hn : Prs w v1 ns) (hl : Prs w v2 ls) (hf : Faces w B v3 rs) (ha : Ints w B v4 ds) (hok : RowsOk ns ls rs) (h20 : ls.length ≤ 20) (h12 : (fltN (innP (firstI (outP ns ls rs) rs.length)) rs.length).length ≤ 12) :
    Calls Tryz.prog 61 #[.agg #[v1, v2, v3, v4]] w (SomeInts (sortL (ltR (bxR ns ls rs)) (fltN (innP (firstI (outP ns ls rs) rs.length)) rs.length)) w) := by
  have HI := Lib.hid (fun W hb => implInnerS ns ls v1 v2 v3 v4 rs ds B W (hn.step hb) (hl.step hb) (hf.step hb) (ha.step hb) hok)
  unfold SomeInts at HI
  have HFL := Lib.hid (fltN_mem (innP (firstI (outP ns ls rs) rs.length)) rs.length)
  generalize fltN (innP (firstI (outP ns ls rs) rs.length)) rs.length = xs at *
  have H0 := Lib.hid (heldG w v1 v2 v3 v4 66)
  have HSO := Lib.hid (fun (W : World) (g cp : Nat) (hH : Held w W [(w.heap.size, 0, v1), (w.heap.size, 1, v2), (w.heap.size, 2, v3), (w.heap.size, 3, v4)]) (hI : Ints W (w.heap.size + 1) (.slice (some ⟨g, 0, none⟩) xs.length cp) xs) =>
    sortFuncR (w0 := w) (B := w.heap.size + 1) (g := g) (cp := cp) (fs := [(w.heap.size, 0, v1), (w.heap.size, 1, v2), (w.heap.size, 2, v3), (w.heap.size, 3, v4)]) (.pointer (some ⟨w.heap.size, 0, none⟩)) (rcmp (bxR ns ls rs)) xs W (Nat.le_succ _) ⟨Nat.lt_succ_self _, Nat.lt_succ_self _, Nat.lt_succ_self _, Nat.lt_succ_self _, trivial⟩ hH hI h12
      (fun W' x y hx hy hh => by
        obtain ⟨i, rfl, hi, -⟩ := (HFL.out x).1 hx
        obtain ⟨j, rfl, hj, -⟩ := (HFL.out y).1 hy
        exact rdCmp v1 v2 v3 v4 rs ds ns ls B B w.heap.size i j W' (hn.step hh.below) (hl.step hh.below) (hf.step hh.below) (ha.step hh.below) hok hi hj h20 hh.1.1 hh.1.2.1 hh.1.2.2.1 hh.1.2.2.2.1 hh.2.1.1))
  have HSL := Lib.hid (show sortL (fun x y => decide (rcmp (bxR ns ls rs) x y < 0)) xs = sortL (ltR (bxR ns ls rs)) xs from rfl)
  have HLN := Lib.hid (sortL_len (ltR (bxR ns ls rs)) xs.length xs rfl)
  rw [HSL.out] at HSO
  clear HSL
  generalize sortL (ltR (bxR ns ls rs)) xs = R at *
  obtain ⟨A, c, rfl⟩ := prs_form2 hn
  obtain ⟨A2, c2, rfl⟩ := prs_form2 hl
  obtain ⟨A3, c3, rfl⟩ := faces_form hf
  obtain ⟨A4, c4, rfl⟩ := ints_form ha
  clear hn hl hf ha hok HFL
  have hmf : ∀ (fn : Fn) (first cap : Array Value) (w : World), (Instr.makeFunc fn first cap).run Tryz.prog w = .ok (.func fn first cap) w := fun _ _ _ _ => rfl
  go_enter Tryz.func61, Tryz.ntmps61
  obtain ⟨x0, x1, x2, x3, _⟩ := H0.out.1
  go_wp2_with fail
  refine (HI.out _ H0.out.below).mono ?_
  rintro e w1 ⟨g, cg, rfl, hi, hb⟩
  have H1 := Lib.hid (H0.out.step hb)
  have HI1 := Lib.hid (hi.mono (b' := w.heap.size + 1) (by simp))
  clear hi hb x0 x1 x2 x3 H0
  go_wp2_with fail
  refine (HSO.out _ _ _ H1.out HI1.out).mono ?_
  rintro e w2 ⟨rfl, hi, hh⟩
  have H2 := Lib.hid hh
  have HI2 := Lib.hid hi
  clear hi hh
  go_wp2_with fail
  go_ret
  refine ⟨g, cg, ?_, ?_, H2.out.below⟩
  · rw [HLN.out]; rfl
  · rw [HLN.out]; exact HI2.out.mono (Nat.le_succ _)

set_option maxRecDepth 100000 in
theorem implRead (ns ls : List Nd) (vn vl : Value) (w : World) (hn : Prs w vn ns) (hl : Prs w vl ls) :
    Calls Tryz.prog 26 #[.agg #[vn, vl]] w (IntsNew (readL ns ls) w) := by
  have HS := Lib.hid (fun v1 v2 v3 v4 B w h1 h2 h3 h4 h12 => implReadG v1 v2 v3 v4 (wF ns ls) (gA ns ls) (gN ns ls) (gL ns ls) B w h1 h2 h3 h4 (g_ok ns ls) (g_len ns ls).2 h12)
  rw [g_outer] at HS
  have HS := Lib.hid (fun v1 v2 v3 v4 B w h1 h2 h3 h4 => HS.out v1 v2 v3 v4 B w h1 h2 h3 h4 (inn_twelve ns ls))
  rw [show fltN (innP (outW ns ls)) (wF ns ls).length = innW ns ls from rfl, read_congr] at HS
  unfold SomeInts at HS
  have HN := Lib.hid hn
  have HL := Lib.hid hl
  have HGL := Lib.hid (fun w h1 h2 => implGlass ns ls vn vl w h1 h2)
  unfold GlassNew at HGL
  have H0 := Lib.hid (held_pair w vn vl 31)
  obtain ⟨A, c, rfl⟩ := prs_form2 hn
  obtain ⟨A2, c2, rfl⟩ := prs_form2 hl
  clear hn hl
  generalize readL ns ls = res at *
  generalize gN ns ls = ns' at *
  generalize gL ns ls = ls' at *
  generalize gA ns ls = ds at *
  generalize wF ns ls = rs at *
  generalize wholeB ns ls = ok at *
  go_enter Tryz.func26, Tryz.ntmps26
  go_wp2_with fail
  refine (HGL.out _ (HN.out.step H0.out.below) (HL.out.step H0.out.below)).mono ?_
  rintro e w1 ⟨v1, v2, v3, v4, rfl, g1, g2, g3, g4, hb⟩
  have H1 := Lib.hid (H0.out.step hb)
  have G0 := Lib.hid (heldG w1 v1 v2 v3 v4 66)
  have B1 := Lib.hid (H1.out.below.trans (G0.out.below.mono H1.out.below.size))
  have G1 := Lib.hid (g1.step G0.out.below)
  have G2 := Lib.hid (g2.step G0.out.below)
  have G3 := Lib.hid (g3.step G0.out.below)
  have G4 := Lib.hid (g4.step G0.out.below)
  obtain ⟨A5, c5, rfl⟩ := prs_form2 g1
  obtain ⟨A6, c6, rfl⟩ := prs_form2 g2
  obtain ⟨A7, c7, rfl⟩ := faces_form g3
  obtain ⟨A8, c8, rfl⟩ := ints_form g4
  clear hb g1 g2 g3 g4
  obtain ⟨x0, x1, _⟩ := H1.out.1
  obtain ⟨y0, y1, y2, y3, _⟩ := G0.out.1
  go_wp2_with fail
  refine (HS.out _ _ _ _ _ _ G1.out G2.out G3.out G4.out).mono ?_
  rintro e w2 ⟨g9, c9, rfl, hm, hb⟩
  have B2 := Lib.hid (B1.out.trans (hb.mono B1.out.size))
  have HM := Lib.hid (hm.mono B1.out.size)
  clear hb hm
  go_wp2_with fail
  go_ret
  exact ⟨_, rfl, HM.out, B2.out⟩
end Go.Proofs.YtmboilogcnmlnaaGreat
