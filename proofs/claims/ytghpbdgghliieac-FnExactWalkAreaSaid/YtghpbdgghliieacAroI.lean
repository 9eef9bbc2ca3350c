/-
  The program's darts around a node.
-/
import Derived.Test.YtghpbdgghliieacSortF
import Derived.Test.YtghpbdgghliieacDegP
import Derived.Test.YtghpbdgghliieacSortI
import Derived.Test.YtghpbdgghliieacAppI
import Derived.Test.YtghpbdgghliieacWinI
namespace Go.Proofs.Ytghpbdgghliieac
open Go.RowKit
set_option linter.unusedVariables false
set_option linter.unusedSimpArgs false

def cmpI (ns ls : List Nd) (k : Nat) (x y : Int) : Int := if ltD ns ls k x y = true then -1 else if ltD ns ls k y x = true then 1 else 0
theorem cmpI_lt (ns ls : List Nd) (k : Nat) (x y : Int) : decide (cmpI ns ls k x y < 0) = ltD ns ls k x y := by
  unfold cmpI
  cases ltD ns ls k x y <;> cases ltD ns ls k y x <;> rfl
/-- What the comparison keeps in view: the drawing, the order, the node. -/
def capFs (bd bf bk : Nat) (vn vl vf : Value) (k : Nat) : List (Nat × Nat × Value) := [(bd, 0, vn), (bd, 1, vl), (bf, 0, vf), (bk, 0, .int .i64 k)]

set_option maxRecDepth 100000 in
set_option maxHeartbeats 4000000 in
theorem cmpAro (ns ls : List Nd) (vn vl : Value) (k : Nat) (bd bf bk : Nat) (x y : Int) (w0 w : World) (hn : Prs w0 vn ns) (hl : Prs w0 vl ls) (hw : winB ns ls = true) (hk : k < ns.length)
    (hH : Held w0 w (capFs bd bf bk vn vl (.func (.func 112) #[] #[]) k)) (hx : ∃ d : Nat, x = d ∧ d < 2 * ls.length) (hy : ∃ d : Nat, y = d ∧ d < 2 * ls.length) :
    Calls Try.prog 124 #[.int .i64 x, .int .i64 y, .pointer (some ⟨bd, 0, none⟩), .pointer (some ⟨bf, 0, none⟩), .pointer (some ⟨bk, 0, none⟩)] w (IntIs (cmpI ns ls k x y) w) := by
  have HN := Lib.hid hn
  have HL := Lib.hid hl
  have h20 := ((winB_iff ns ls).1 hw).1.2
  obtain ⟨A, c, rfl⟩ := prs_form2 hn
  obtain ⟨A2, c2, rfl⟩ := prs_form2 hl
  clear hn hl
  obtain ⟨dx, rfl, hdx⟩ := hx
  obtain ⟨dy, rfl, hdy⟩ := hy
  obtain ⟨ax, bx, hfx, htx, _, hbx, _⟩ := dart_nat hw hdx
  obtain ⟨ay, by', hfy, hty, _, hby, _⟩ := dart_nat hw hdy
  have HX := Lib.hid (fun w hv => hfx ▸ htx ▸ dEnds ls (.slice A ns.length c) (.slice A2 ls.length c2) dx w hv hdx h20)
  have HY := Lib.hid (fun w hv => hfy ▸ hty ▸ dEnds ls (.slice A ns.length c) (.slice A2 ls.length c2) dy w hv hdy h20)
  unfold TwoIs at HX HY
  have hr : cmpI ns ls k (dx : Int) (dy : Int) = if beforeB (atN ns k) (atN ns bx) (atN ns by') = true then -1 else if beforeB (atN ns k) (atN ns by') (atN ns bx) = true then 1 else 0 := by
    unfold cmpI ltD
    rw [Int.toNat_natCast, Int.toNat_natCast, htx, hty]; rfl
  unfold capFs at hH
  have H0 := Lib.hid hH
  have HB0 := Lib.hid hH.below; clear hH
  obtain ⟨b1, o1, c3, he, hbl1, hcs1⟩ := prs_at2 (HN.out.step HB0.out) hk
  injection he with he1 he2 he3
  subst he1
  clear he2 he3
  have H1 := Lib.hid (aro_cells H0.out hcs1 hbl1 hk hbx hby)
  unfold P1 at H1
  simp only [List.cons_append, List.nil_append] at H1
  have HB1 := Lib.hid (implBefore (atN ns k) (atN ns bx) (atN ns by'))
  have HB2 := Lib.hid (implBefore (atN ns k) (atN ns by') (atN ns bx))
  unfold Nd.val at HB1 HB2
  generalize beforeB (atN ns k) (atN ns bx) (atN ns by') = r1 at *
  generalize beforeB (atN ns k) (atN ns by') (atN ns bx) = r2 at *
  generalize atN ns k = n1 at *
  generalize atN ns bx = n2 at *
  generalize atN ns by' = n3 at *
  obtain ⟨kx, ky⟩ := n1
  obtain ⟨xx, xy⟩ := n2
  obtain ⟨yx, yy⟩ := n3
  simp only at H1 HB1 HB2
  have HR := Lib.hid hr
  clear hr hcs1 H0 HB0 hfx htx hfy hty hw
  generalize cmpI ns ls k (dx : Int) (dy : Int) = r at *
  have p5 : (0 : Int) ≤ k := by omega
  have p6 : (k : Int) < (ns.length : Int) := by omega
  have p7 : (0 : Int) ≤ bx := by omega
  have p8 : (bx : Int) < (ns.length : Int) := by omega
  have p9 : (0 : Int) ≤ by' := by omega
  have p10 : (by' : Int) < (ns.length : Int) := by omega
  have H2 := Lib.hid (Held.start H1.out.1 H1.out.2.1)
  have HL2 := Lib.hid (HL.out.step H1.out.below)
  clear H1 HN HL
  obtain ⟨x0, x1, x2, x3, x4, x5, x6, x7, x8, x9, _⟩ := H2.out.1
  cases r1
  · cases r2
    · go_enter Try.func124, Try.ntmps124
      go_wp2_with fail
      refine (HX.out _ HL2.out).mono ?_
      rintro e wH3 ⟨rfl, hb⟩
      have H3 := Lib.hid ((H2.out).step hb); clear hb
      try clear x0 x1 x2 x3 x4 x5 x6 x7 x8 x9
      obtain ⟨x0, x1, x2, x3, x4, x5, x6, x7, x8, x9, _⟩ := H3.out.1
      go_wp2_with fail
      refine (HY.out _ (HL2.out.step H3.out.below)).mono ?_
      rintro e wH4 ⟨rfl, hb⟩
      have H4 := Lib.hid ((H3.out).step hb); clear hb
      try clear x0 x1 x2 x3 x4 x5 x6 x7 x8 x9
      obtain ⟨x0, x1, x2, x3, x4, x5, x6, x7, x8, x9, _⟩ := H4.out.1
      go_wp2_with fail
      refine regionD (S := fun W => Held _ W [(bd, 0, .slice (some ⟨b1, o1, none⟩) ns.length c), (bd, 1, .slice A2 ls.length c2), (bf, 0, .func (.func 112) #[] #[]), (bk, 0, .int .i64 (k)), (b1, o1 + k * 2, .int .i64 (kx)), (b1, o1 + k * 2 + 1, .int .i64 (ky)), (b1, o1 + bx * 2, .int .i64 (xx)), (b1, o1 + bx * 2 + 1, .int .i64 (xy)), (b1, o1 + by' * 2, .int .i64 (yx)), (b1, o1 + by' * 2 + 1, .int .i64 (yy))]) (by kernel_rfl) H4.out.drew ?_
      iterate 18 (refine takeT (v := ?_) rfl (by kernel_rfl) (by kernel_rfl) (by kernel_rfl) ?_ ?_; rotate_left; (first | (refine Or.inr ⟨by rfl, ?_⟩; with_reducible rfl) | (refine Or.inl ⟨by rfl, fun W hS => detRes_value (w' := W) ?_ hS⟩; obtain ⟨x0, x1, x2, x3, x4, x5, x6, x7, x8, x9, _⟩ := hS.1; go_simp; first | done | with_reducible rfl) | (refine Or.inl ⟨by rfl, fun W hS => ?_⟩; refine detRes_call (w' := W) (f := ?_) (args := ?_) ?_ ?_; rotate_left 2; (go_simp; (refine ⟨?_, ?_⟩ <;> with_reducible rfl)); (first | (with_reducible refine (HB1.out _).mono ?_) | fail); (first | (rintro e wn ⟨rfl, hb⟩; refine ⟨?_, hS.step hb⟩; with_reducible rfl) | (rintro e wn ⟨rfl, rfl⟩; refine ⟨?_, hS⟩; with_reducible rfl) | fail)) | fail); (simp only [Act.put, List.setIfInBounds_toArray, List.set_cons_zero, List.set_cons_succ]))
      refine doneD (by kernel_rfl) fun wH5 HS => ?_
      have H5 := Lib.hid HS; clear HS
      try clear x0 x1 x2 x3 x4 x5 x6 x7 x8 x9
      obtain ⟨x0, x1, x2, x3, x4, x5, x6, x7, x8, x9, _⟩ := H5.out.1
      go_wp2_with fail
      refine regionD (S := fun W => Held _ W [(bd, 0, .slice (some ⟨b1, o1, none⟩) ns.length c), (bd, 1, .slice A2 ls.length c2), (bf, 0, .func (.func 112) #[] #[]), (bk, 0, .int .i64 (k)), (b1, o1 + k * 2, .int .i64 (kx)), (b1, o1 + k * 2 + 1, .int .i64 (ky)), (b1, o1 + bx * 2, .int .i64 (xx)), (b1, o1 + bx * 2 + 1, .int .i64 (xy)), (b1, o1 + by' * 2, .int .i64 (yx)), (b1, o1 + by' * 2 + 1, .int .i64 (yy))]) (by kernel_rfl) H5.out.drew ?_
      iterate 18 (refine takeT (v := ?_) rfl (by kernel_rfl) (by kernel_rfl) (by kernel_rfl) ?_ ?_; rotate_left; (first | (refine Or.inr ⟨by rfl, ?_⟩; with_reducible rfl) | (refine Or.inl ⟨by rfl, fun W hS => detRes_value (w' := W) ?_ hS⟩; obtain ⟨x0, x1, x2, x3, x4, x5, x6, x7, x8, x9, _⟩ := hS.1; go_simp; first | done | with_reducible rfl) | (refine Or.inl ⟨by rfl, fun W hS => ?_⟩; refine detRes_call (w' := W) (f := ?_) (args := ?_) ?_ ?_; rotate_left 2; (go_simp; (refine ⟨?_, ?_⟩ <;> with_reducible rfl)); (first | (with_reducible refine (HB2.out _).mono ?_) | fail); (first | (rintro e wn ⟨rfl, hb⟩; refine ⟨?_, hS.step hb⟩; with_reducible rfl) | (rintro e wn ⟨rfl, rfl⟩; refine ⟨?_, hS⟩; with_reducible rfl) | fail)) | fail); (simp only [Act.put, List.setIfInBounds_toArray, List.set_cons_zero, List.set_cons_succ]))
      refine doneD (by kernel_rfl) fun wH6 HS => ?_
      have H6 := Lib.hid HS; clear HS
      try clear x0 x1 x2 x3 x4 x5 x6 x7 x8 x9
      obtain ⟨x0, x1, x2, x3, x4, x5, x6, x7, x8, x9, _⟩ := H6.out.1
      go_wp2_with fail
      go_ret
      exact ⟨ret_int (by rw [HR.out]; rfl), H6.out.below⟩
    · go_enter Try.func124, Try.ntmps124
      go_wp2_with fail
      refine (HX.out _ HL2.out).mono ?_
      rintro e wH3 ⟨rfl, hb⟩
      have H3 := Lib.hid ((H2.out).step hb); clear hb
      try clear x0 x1 x2 x3 x4 x5 x6 x7 x8 x9
      obtain ⟨x0, x1, x2, x3, x4, x5, x6, x7, x8, x9, _⟩ := H3.out.1
      go_wp2_with fail
      refine (HY.out _ (HL2.out.step H3.out.below)).mono ?_
      rintro e wH4 ⟨rfl, hb⟩
      have H4 := Lib.hid ((H3.out).step hb); clear hb
      try clear x0 x1 x2 x3 x4 x5 x6 x7 x8 x9
      obtain ⟨x0, x1, x2, x3, x4, x5, x6, x7, x8, x9, _⟩ := H4.out.1
      go_wp2_with fail
      refine regionD (S := fun W => Held _ W [(bd, 0, .slice (some ⟨b1, o1, none⟩) ns.length c), (bd, 1, .slice A2 ls.length c2), (bf, 0, .func (.func 112) #[] #[]), (bk, 0, .int .i64 (k)), (b1, o1 + k * 2, .int .i64 (kx)), (b1, o1 + k * 2 + 1, .int .i64 (ky)), (b1, o1 + bx * 2, .int .i64 (xx)), (b1, o1 + bx * 2 + 1, .int .i64 (xy)), (b1, o1 + by' * 2, .int .i64 (yx)), (b1, o1 + by' * 2 + 1, .int .i64 (yy))]) (by kernel_rfl) H4.out.drew ?_
      iterate 18 (refine takeT (v := ?_) rfl (by kernel_rfl) (by kernel_rfl) (by kernel_rfl) ?_ ?_; rotate_left; (first | (refine Or.inr ⟨by rfl, ?_⟩; with_reducible rfl) | (refine Or.inl ⟨by rfl, fun W hS => detRes_value (w' := W) ?_ hS⟩; obtain ⟨x0, x1, x2, x3, x4, x5, x6, x7, x8, x9, _⟩ := hS.1; go_simp; first | done | with_reducible rfl) | (refine Or.inl ⟨by rfl, fun W hS => ?_⟩; refine detRes_call (w' := W) (f := ?_) (args := ?_) ?_ ?_; rotate_left 2; (go_simp; (refine ⟨?_, ?_⟩ <;> with_reducible rfl)); (first | (with_reducible refine (HB1.out _).mono ?_) | fail); (first | (rintro e wn ⟨rfl, hb⟩; refine ⟨?_, hS.step hb⟩; with_reducible rfl) | (rintro e wn ⟨rfl, rfl⟩; refine ⟨?_, hS⟩; with_reducible rfl) | fail)) | fail); (simp only [Act.put, List.setIfInBounds_toArray, List.set_cons_zero, List.set_cons_succ]))
      refine doneD (by kernel_rfl) fun wH5 HS => ?_
      have H5 := Lib.hid HS; clear HS
      try clear x0 x1 x2 x3 x4 x5 x6 x7 x8 x9
      obtain ⟨x0, x1, x2, x3, x4, x5, x6, x7, x8, x9, _⟩ := H5.out.1
      go_wp2_with fail
      refine regionD (S := fun W => Held _ W [(bd, 0, .slice (some ⟨b1, o1, none⟩) ns.length c), (bd, 1, .slice A2 ls.length c2), (bf, 0, .func (.func 112) #[] #[]), (bk, 0, .int .i64 (k)), (b1, o1 + k * 2, .int .i64 (kx)), (b1, o1 + k * 2 + 1, .int .i64 (ky)), (b1, o1 + bx * 2, .int .i64 (xx)), (b1, o1 + bx * 2 + 1, .int .i64 (xy)), (b1, o1 + by' * 2, .int .i64 (yx)), (b1, o1 + by' * 2 + 1, .int .i64 (yy))]) (by kernel_rfl) H5.out.drew ?_
      iterate 18 (refine takeT (v := ?_) rfl (by kernel_rfl) (by kernel_rfl) (by kernel_rfl) ?_ ?_; rotate_left; (first | (refine Or.inr ⟨by rfl, ?_⟩; with_reducible rfl) | (refine Or.inl ⟨by rfl, fun W hS => detRes_value (w' := W) ?_ hS⟩; obtain ⟨x0, x1, x2, x3, x4, x5, x6, x7, x8, x9, _⟩ := hS.1; go_simp; first | done | with_reducible rfl) | (refine Or.inl ⟨by rfl, fun W hS => ?_⟩; refine detRes_call (w' := W) (f := ?_) (args := ?_) ?_ ?_; rotate_left 2; (go_simp; (refine ⟨?_, ?_⟩ <;> with_reducible rfl)); (first | (with_reducible refine (HB2.out _).mono ?_) | fail); (first | (rintro e wn ⟨rfl, hb⟩; refine ⟨?_, hS.step hb⟩; with_reducible rfl) | (rintro e wn ⟨rfl, rfl⟩; refine ⟨?_, hS⟩; with_reducible rfl) | fail)) | fail); (simp only [Act.put, List.setIfInBounds_toArray, List.set_cons_zero, List.set_cons_succ]))
      refine doneD (by kernel_rfl) fun wH6 HS => ?_
      have H6 := Lib.hid HS; clear HS
      try clear x0 x1 x2 x3 x4 x5 x6 x7 x8 x9
      obtain ⟨x0, x1, x2, x3, x4, x5, x6, x7, x8, x9, _⟩ := H6.out.1
      go_wp2_with fail
      go_ret
      exact ⟨ret_int (by rw [HR.out]; rfl), H6.out.below⟩
  · go_enter Try.func124, Try.ntmps124
    go_wp2_with fail
    refine (HX.out _ HL2.out).mono ?_
    rintro e wH3 ⟨rfl, hb⟩
    have H3 := Lib.hid ((H2.out).step hb); clear hb
    try clear x0 x1 x2 x3 x4 x5 x6 x7 x8 x9
    obtain ⟨x0, x1, x2, x3, x4, x5, x6, x7, x8, x9, _⟩ := H3.out.1
    go_wp2_with fail
    refine (HY.out _ (HL2.out.step H3.out.below)).mono ?_
    rintro e wH4 ⟨rfl, hb⟩
    have H4 := Lib.hid ((H3.out).step hb); clear hb
    try clear x0 x1 x2 x3 x4 x5 x6 x7 x8 x9
    obtain ⟨x0, x1, x2, x3, x4, x5, x6, x7, x8, x9, _⟩ := H4.out.1
    go_wp2_with fail
    refine regionD (S := fun W => Held _ W [(bd, 0, .slice (some ⟨b1, o1, none⟩) ns.length c), (bd, 1, .slice A2 ls.length c2), (bf, 0, .func (.func 112) #[] #[]), (bk, 0, .int .i64 (k)), (b1, o1 + k * 2, .int .i64 (kx)), (b1, o1 + k * 2 + 1, .int .i64 (ky)), (b1, o1 + bx * 2, .int .i64 (xx)), (b1, o1 + bx * 2 + 1, .int .i64 (xy)), (b1, o1 + by' * 2, .int .i64 (yx)), (b1, o1 + by' * 2 + 1, .int .i64 (yy))]) (by kernel_rfl) H4.out.drew ?_
    iterate 18 (refine takeT (v := ?_) rfl (by kernel_rfl) (by kernel_rfl) (by kernel_rfl) ?_ ?_; rotate_left; (first | (refine Or.inr ⟨by rfl, ?_⟩; with_reducible rfl) | (refine Or.inl ⟨by rfl, fun W hS => detRes_value (w' := W) ?_ hS⟩; obtain ⟨x0, x1, x2, x3, x4, x5, x6, x7, x8, x9, _⟩ := hS.1; go_simp; first | done | with_reducible rfl) | (refine Or.inl ⟨by rfl, fun W hS => ?_⟩; refine detRes_call (w' := W) (f := ?_) (args := ?_) ?_ ?_; rotate_left 2; (go_simp; (refine ⟨?_, ?_⟩ <;> with_reducible rfl)); (first | (with_reducible refine (HB1.out _).mono ?_) | fail); (first | (rintro e wn ⟨rfl, hb⟩; refine ⟨?_, hS.step hb⟩; with_reducible rfl) | (rintro e wn ⟨rfl, rfl⟩; refine ⟨?_, hS⟩; with_reducible rfl) | fail)) | fail); (simp only [Act.put, List.setIfInBounds_toArray, List.set_cons_zero, List.set_cons_succ]))
    refine doneD (by kernel_rfl) fun wH5 HS => ?_
    have H5 := Lib.hid HS; clear HS
    try clear x0 x1 x2 x3 x4 x5 x6 x7 x8 x9
    obtain ⟨x0, x1, x2, x3, x4, x5, x6, x7, x8, x9, _⟩ := H5.out.1
    go_wp2_with fail
    go_ret
    exact ⟨ret_int (by rw [HR.out]; rfl), H5.out.below⟩

set_option maxRecDepth 100000 in
theorem pdqSmall {w0 : World} {B g cp : Nat} {fs : List (Nat × Nat × Value)} (p2 p3 p4 : Value) (c : Int → Int → Int) (xs : List Int) (lim : Int) (w : World) (hB : w0.heap.size ≤ B) (hfs : Bs B fs) (hH : Held w0 w fs)
    (hI : Ints w B (.slice (some ⟨g, 0, none⟩) xs.length cp) xs) (h12 : xs.length ≤ 12)
    (hC : ∀ W x y, x ∈ xs → y ∈ xs → Held w0 W fs → Calls Try.prog 124 #[.int .i64 x, .int .i64 y, p2, p3, p4] W (IntIs (c x y) W)) :
    Calls Try.prog 134 #[.slice (some ⟨g, 0, none⟩) xs.length cp, .int .i64 0, .int .i64 xs.length, .int .i64 lim, .func (.func 124) #[] #[p2, p3, p4]] w
      fun e w' => e = .returned (.tuple #[]) ∧ Ints w' B (.slice (some ⟨g, 0, none⟩) xs.length cp) (sortL (fun x y => decide (c x y < 0)) xs) ∧ Held w0 w' fs := by
  have HS := Lib.hid (insSort p2 p3 p4 c xs w hB hfs hH hI (by omega) hC)
  have hz : (xs.length : Int) ≤ 12 := by omega
  clear hH hI hC hfs
  go_enter Try.func134, Try.ntmps134
  go_wp2
  refine wp_loop_rounds 1 ?_
  rw [rounds_succ]
  go_wp2_with fail
  refine HS.out.mono ?_
  rintro e w' ⟨rfl, h1, h2⟩
  go_wp2_with fail
  (try simp only [Exit.inBlock, Exit.then]); refine bodyPost_ret (results_none rfl _ _ _) rfl ?_
  exact ⟨rfl, h1, h2⟩

set_option maxRecDepth 100000 in
theorem sortFunc {w0 : World} {B g cp : Nat} {fs : List (Nat × Nat × Value)} (p2 p3 p4 : Value) (c : Int → Int → Int) (xs : List Int) (w : World) (hB : w0.heap.size ≤ B) (hfs : Bs B fs) (hH : Held w0 w fs)
    (hI : Ints w B (.slice (some ⟨g, 0, none⟩) xs.length cp) xs) (h12 : xs.length ≤ 12)
    (hC : ∀ W x y, x ∈ xs → y ∈ xs → Held w0 W fs → Calls Try.prog 124 #[.int .i64 x, .int .i64 y, p2, p3, p4] W (IntIs (c x y) W)) :
    Calls Try.prog 123 #[.slice (some ⟨g, 0, none⟩) xs.length cp, .func (.func 124) #[] #[p2, p3, p4]] w
      fun e w' => e = .returned (.tuple #[]) ∧ Ints w' B (.slice (some ⟨g, 0, none⟩) xs.length cp) (sortL (fun x y => decide (c x y < 0)) xs) ∧ Held w0 w' fs := by
  have HS := Lib.hid (fun lim => pdqSmall p2 p3 p4 c xs lim w hB hfs hH hI h12 hC)
  have HL : Hid (Calls Try.prog 135 #[.int .u64 (xs.length : Int)] w fun e w' => e = .returned (.int .i64 ((Lib.bitLen (xs.length : Int).toNat : Nat) : Int)) ∧ w' = w) := Lib.hid (Any.bits_Len Try.lays125 (xs.length : Int) w (by omega) (by omega))
  have hz : (xs.length : Int) ≤ 12 := by omega
  have hz0 : 0 ≤ (xs.length : Int) := by omega
  clear hH hI hC hfs
  go_enter Try.func123, Try.ntmps123
  go_wp2_with fail
  refine HL.out.mono ?_
  rintro e w' ⟨rfl, rfl⟩
  go_wp2_with fail
  refine (HS.out _).mono ?_
  rintro e w2 ⟨rfl, h1, h2⟩
  go_wp2_with fail
  go_end0
  exact ⟨rfl, h1, h2⟩

end Go.Proofs.Ytghpbdgghliieac
