/-
  NumberOf, FaceWithNumber, of the program and of the model.
-/
import Derived.Test.YtmboilogcnmlnaaGreatRds
import Derived.Test.YtmboilogcnmlnaaGreatG3
namespace Go.Proofs.YtmboilogcnmlnaaGreat
open Go.RowKit
set_option linter.unusedVariables false
set_option linter.unusedSimpArgs false

/-- The numbers 1 to n. -/
def numK (n : Nat) : List Int := (List.range n).map fun k : Nat => (k : Int) + 1

theorem numK_succ (n : Nat) : numK (n + 1) = numK n ++ [(n : Int) + 1] := by simp [numK, List.range_succ]

theorem numK_len (n : Nat) : (numK n).length = n := by simp [numK]

theorem numK_at {n k : Nat} (h : k < n) : atZ (numK n) k = (k : Int) + 1 := by simp [atZ, numK, List.getD, h]

/-- Block b holds the two slices. -/
def RB (W : World) (b : Nat) (x y : Value) : Prop := W.heap[b]? = some (.cells #[x, y] 79)

section

variable {W W' : World} {b g : Nat} {x y : Value}

theorem RB.lt (h : RB W b x y) : b < W.heap.size := lt_of_block h

theorem RB.cells (h : RB W b x y) : W.cell? ⟨b, 0, none⟩ = some x ∧ W.cell? ⟨b, 1, none⟩ = some y ∧ W.frozen? ⟨b, 0, none⟩ = false ∧ W.frozen? ⟨b, 1, none⟩ = false := by
  unfold RB at h
  refine ⟨(cell_of_cells (k := 0) h).trans rfl, (cell_of_cells (k := 1) h).trans rfl, ?_, ?_⟩ <;> simp [World.frozen?, h]

theorem RB.step (h : RB W b x y) (hb : Below W.heap.size W W') : RB W' b x y := (hb.block _ h.lt).trans h

theorem RB.put1 (h : RB W b x y) (z : Value) : RB (W.setCell ⟨b, 1, none⟩ z) b x z := heap_setCell_self (k := 1) h z

theorem RB.far (h : RB W b x y) (hne : b ≠ g) (j : Nat) (z : Value) : RB (W.setCell ⟨g, j, none⟩ z) b x y := (Below.heap_setCell _ _ _ _ hne).trans h

theorem RB.farV {B : Nat} {v : Value} {xs : List Int} (h : RB W b x y) (hi : Ints W B v xs) : v.ownBlock ≠ some b := by
  intro e
  obtain ⟨cur, hc⟩ := hi.typed e
  unfold RB at h
  rw [h] at hc
  simp at hc

theorem RB.grown {row : Option Nat} (h : RB W b x y) (hg : W.grownBy W' row) (hr : row ≠ some b) : RB W' b x y := (hg.block _ h.lt fun e => hr e.symm).trans h

end

/-- What numbers returns: the faces and their numbers. -/
def NumsNew (xs : List Int) (w : World) (e : Ending) (w' : World) : Prop := ∃ vf vk, e = .returned (.agg #[vf, vk]) ∧ Ints w' w.heap.size vf xs ∧ Ints w' w.heap.size vk (numK xs.length) ∧ Below w.heap.size w w'

set_option maxRecDepth 100000 in
set_option maxHeartbeats 2000000 in
theorem implNumG (v1 v2 v3 v4 : Value) (rs : List (List Int)) (ds : List Int) (ns ls : List Nd) (B : Nat) (w : World) (hn : Prs w v1 ns) (hl : Prs w v2 ls) (hf : Faces w B v3 rs) (ha : Ints w B v4 ds) (hok : RowsOk ns ls rs) (h20 : ls.length ≤ 20) (h12 : (fltN (innP (firstI (outP ns ls rs) rs.length)) rs.length).length ≤ 12) :
    Calls Tryz.prog 62 #[.agg #[v1, v2, v3, v4]] w (NumsNew (sortL (ltR (bxR ns ls rs)) (fltN (innP (firstI (outP ns ls rs) rs.length)) rs.length)) w) := by
  have HRD := Lib.hid (fun W hb => implReadG v1 v2 v3 v4 rs ds ns ls B W (hn.step hb) (hl.step hb) (hf.step hb) (ha.step hb) hok h20 h12)
  unfold SomeInts at HRD
  have hxl : (sortL (ltR (bxR ns ls rs)) (fltN (innP (firstI (outP ns ls rs) rs.length)) rs.length)).length ≤ 12 := by rw [sortL_len _ _ _ rfl]; exact h12
  generalize sortL (ltR (bxR ns ls rs)) (fltN (innP (firstI (outP ns ls rs) rs.length)) rs.length) = xs at *
  have H0 := Lib.hid ((heldG w v1 v2 v3 v4 66).alloc (.cells #[.slice none 0 0, .slice none 0 0] 79))
  have HZ0 := Lib.hid (show RB ((w.alloc (.cells #[v1, v2, v3, v4] 66)).alloc (.cells #[.slice none 0 0, .slice none 0 0] 79)) (w.heap.size + 1) (.slice none 0 0) (.slice none 0 0) from by
    have := heap_alloc_new (w.alloc (.cells #[v1, v2, v3, v4] 66)) (.cells #[.slice none 0 0, .slice none 0 0] 79)
    simpa [RB] using this)
  obtain ⟨A, c, rfl⟩ := prs_form2 hn
  obtain ⟨A2, c2, rfl⟩ := prs_form2 hl
  obtain ⟨A3, c3, rfl⟩ := faces_form hf
  obtain ⟨A4, c4, rfl⟩ := ints_form ha
  clear hn hl hf ha hok h12 h20
  unfold NumsNew
  have HU := Lib.hid numK_succ
  have HLN := Lib.hid numK_len
  have HK0 := Lib.hid (show numK 0 = [] from rfl)
  generalize numK = X at *
  obtain ⟨i0, hi, hz0, hz1, hz2⟩ := info_parts infoInt
  have HI := Lib.hid (And.intro hi (And.intro hz0 (And.intro hz1 hz2))); clear hi hz0 hz1 hz2
  go_enter Tryz.func62, Tryz.ntmps62
  obtain ⟨x0, x1, x2, x3, _⟩ := H0.out.1
  go_wp2_with fail
  refine (HRD.out _ H0.out.below).mono ?_
  rintro e w1 ⟨g, cg, rfl, hi, hb⟩
  have H1 := Lib.hid ((H0.out.step hb).drop)
  have HZ1 := Lib.hid (HZ0.out.step hb)
  have HF1 := Lib.hid (hi.mono (b' := w.heap.size) (by simp; omega))
  clear hi hb x0 x1 x2 x3 H0 HZ0
  have b1 := below_alloc w1 (.cells #[.slice (some ⟨g, 0, none⟩) xs.length cg, .slice none 0 0] 79)
  have HRB := Lib.hid (show RB (w1.alloc (.cells #[.slice (some ⟨g, 0, none⟩) xs.length cg, .slice none 0 0] 79)) w1.heap.size (.slice (some ⟨g, 0, none⟩) xs.length cg) (.slice none 0 0) from heap_alloc_new _ _)
  have HZ2 := Lib.hid (HZ1.out.step b1)
  have HF2 := Lib.hid (HF1.out.step b1)
  have H2 := Lib.hid (H1.out.step b1)
  have hg1 := (HF1.out.own g rfl).2
  have hz1l := HZ1.out.lt
  clear b1
  obtain ⟨e2, e3, -, -⟩ := HRB.out.cells
  go_wp2_with fail
  clear e2 e3
  obtain ⟨b3, hb3⟩ : ∃ b, b = w1.heap.size := ⟨_, rfl⟩
  rw [← hb3] at HRB hg1 hz1l ⊢
  have HB3 := Lib.hid hb3; clear hb3
  go_loopw [11] (fun i wr => ∃ (m : Nat) (vk : Value), m ≤ xs.length ∧ i = .int .i64 m ∧ Ints wr (b3 + 1) vk (X m) ∧ Ints wr w.heap.size (.slice (some ⟨g, 0, none⟩) xs.length cg) xs ∧ RB wr b3 (.slice (some ⟨g, 0, none⟩) xs.length cg) vk ∧ RB wr (w.heap.size + 1) (.slice none 0 0) (.slice none 0 0) ∧ Held w wr []) (fun i _ => xs.length - (intOf i).toNat)
  case atStart => exact ⟨0, .slice none 0 0, Nat.zero_le _, rfl, by rw [HK0.out]; exact Ints.nil _ _, HF2.out, HRB.out, HZ2.out, H2.out⟩
  case round =>
    clear HRB HZ2 HF2 H2
    obtain ⟨m, vk, hm, rfl, hk, hff, hr, hz, hh⟩ := hrel
    have HO := Lib.hid hk; clear hk
    have HF := Lib.hid hff; clear hff
    have HR := Lib.hid hr; clear hr
    have HZ := Lib.hid hz; clear hz
    have H1 := Lib.hid hh; clear hh
    obtain ⟨ak, ck, rfl⟩ := ints_form HO.out
    obtain ⟨e2, e3, f2, f3⟩ := HR.out.cells
    have hlr := HR.out.lt
    by_cases hlt : m < xs.length
    · have HUM := Lib.hid (HU.out m)
      have hln : (X m).length ≤ 12 := by have := HLN.out m; omega
      have p2 : (m : Int) < (xs.length : Int) := by omega
      have ew : IntKind.i64.wrap ((m : Int) + 1) = (m : Int) + 1 := IntWalk.i64_in _ (by omega)
      obtain ⟨hi, hz0, hzz1, hzz2⟩ := HI.out
      go_wp2_with (at_builtin; refine wpList_append_own _ rfl _ _ 43 rfl (b3 + 1) 3 i0 (.int .i64 0) 1 8 Tryz.underlying43 hi hz0 hzz1 hzz2 rfl (by decide) _ _ _ rfl (World.ownsRow.alloc HO.out _) ⟨_, 0, none⟩ 1 1 [.int .i64 ((m : Int) + 1)] rfl rfl ?c1 ?c2 ?c3 ?c4 ?c5 ?_)
      case c1 => exact cell_one_new _ _ _
      case c2 => simp [Value.oneCell']
      case c3 => unfold maxLen; omega
      case c4 => omega
      case c5 => simp <;> omega
      intro v' w5 hown hgrow _
      have ba := below_alloc wr (.cells #[.int .i64 ((m : Int) + 1)] 3)
      have HOA := Lib.hid (HO.out.step ba)
      have HRA := Lib.hid ((HR.out.step ba).grown hgrow ((HR.out.step ba).farV HOA.out))
      have HZA := Lib.hid ((HZ.out.step ba).grown hgrow ((HZ.out.step ba).farV HOA.out))
      have HFA := Lib.hid ((HF.out.step ba).keep fun k e => hgrow.block k ((HF.out.step ba).own k e).2 (fun e2 => by
        have h1 := (HOA.out.own k e2.symm).1
        simp [Value.ownBlock] at e
        omega))
      have H5 := Lib.hid (show Held w w5 [] from ⟨trivial, trivial, (H1.out.below.trans (ba.mono H1.out.below.size)).grown hgrow (by simp; have := H1.out.below.size; omega) (fun k e => by have := (HOA.out.own k e).1; omega)⟩)
      have HO5 := Lib.hid (Ints.more hown)
      have hsz5 := hgrow.size
      clear hown ba hgrow
      obtain ⟨g5, c5, rfl⟩ := HO5.out.some_ (by simp)
      obtain ⟨L5, hL5⟩ : ∃ L, L = (X m ++ [(m : Int) + 1]).length := ⟨_, rfl⟩
      rw [← hL5] at HO5 ⊢
      clear hL5
      obtain ⟨e4, e5, f4, f5⟩ := HRA.out.cells
      have HR6 := Lib.hid (HRA.out.put1 (.slice (some ⟨g5, 0, none⟩) L5 c5))
      have HZ6 := Lib.hid (HZA.out.far (g := b3) (by omega) 1 (.slice (some ⟨g5, 0, none⟩) L5 c5))
      have HF6 := Lib.hid (HFA.out.keep (w' := w5.setCell ⟨b3, 1, none⟩ (.slice (some ⟨g5, 0, none⟩) L5 c5)) fun k e => Below.heap_setCell _ _ _ _ (by show k ≠ b3; simp [Value.ownBlock] at e; omega))
      have HO6 := Lib.hid (HO5.out.keep (w' := w5.setCell ⟨b3, 1, none⟩ (.slice (some ⟨g5, 0, none⟩) L5 c5)) fun k e => Below.heap_setCell _ _ _ _ (by show k ≠ b3; have := (HO5.out.own k e).1; omega))
      have H6 := Lib.hid (H5.out.setB (g := b3) (j := 1) (x := .slice (some ⟨g5, 0, none⟩) L5 c5) (B := b3) trivial (Nat.le_refl _) (by omega))
      clear e2 e3 f2 f3
      go_wp2_with fail
      exact ⟨⟨m + 1, _, by omega, by go_num, by rw [HUM.out]; exact HO6.out, HF6.out, HR6.out, HZ6.out, H6.out⟩, by simp [intOf]; omega⟩
    · obtain rfl : m = xs.length := by omega
      obtain ⟨e4, e5, f4, f5⟩ := HZ.out.cells
      have hlz := HZ.out.lt
      have hne : w.heap.size + 1 ≠ b3 := by omega
      go_wp2_with fail
      have K := HZ.out
      unfold RB at K
      have m0 := heap_setCell_self (k := 0) K (.slice (some ⟨g, 0, none⟩) xs.length cg)
      have m1 := heap_setCell_self (k := 1) m0 (.slice ak (X xs.length).length ck)
      have r0 := (cell_of_cells (k := 0) m1).trans rfl
      have r1 := (cell_of_cells (k := 1) m1).trans rfl
      have hB := (H1.out.below.setCell (p := ⟨w.heap.size + 1, 0, none⟩) (by show w.heap.size ≤ w.heap.size + 1; omega) (.slice (some ⟨g, 0, none⟩) xs.length cg)).setCell (p := ⟨w.heap.size + 1, 1, none⟩) (by show w.heap.size ≤ w.heap.size + 1; omega) (.slice ak (X xs.length).length ck)
      refine bodyPost_ret (v := .agg #[.slice (some ⟨g, 0, none⟩) xs.length cg, .slice ak (X xs.length).length ck]) (by simp [results, Tryz.results62, go_sem, r0, r1]) rfl ⟨_, _, rfl, ?_, ?_, hB⟩
      · exact HF.out.keep fun k e => (Below.heap_setCell _ _ _ _ (by show k ≠ w.heap.size + 1; intro e2; exact HZ.out.farV HF.out (by rw [e, e2]))).trans (Below.heap_setCell _ _ _ _ (by show k ≠ w.heap.size + 1; intro e2; exact HZ.out.farV HF.out (by rw [e, e2])))
      · exact (HO.out.mono (b' := w.heap.size) (by omega)).keep fun k e => (Below.heap_setCell _ _ _ _ (by show k ≠ w.heap.size + 1; intro e2; exact HZ.out.farV HO.out (by rw [e, e2]))).trans (Below.heap_setCell _ _ _ _ (by show k ≠ w.heap.size + 1; intro e2; exact HZ.out.farV HO.out (by rw [e, e2])))

/-- The first place of x, or -1. -/
def plc (xs : List Int) (x : Int) : Int := firstI (fun k => atZ xs k == x) xs.length

theorem plc_hit {xs : List Int} {x : Int} {m : Nat} (hm : m < xs.length) (h : atZ xs m = x) (hb : ∀ j, j < m → atZ xs j ≠ x) : plc xs x = (m : Int) := firstI_at (fun j hj => by simpa using hb j hj) (by simpa using h) _ hm

theorem plc_miss {xs : List Int} {x : Int} (hb : ∀ j, j < xs.length → atZ xs j ≠ x) : plc xs x = -1 := firstI_none _ fun j hj => by simpa using hb j hj

theorem plc_cases (xs : List Int) (x : Int) : (plc xs x = -1 ∧ ∀ j, j < xs.length → atZ xs j ≠ x) ∨ ∃ m : Nat, plc xs x = (m : Int) ∧ m < xs.length ∧ atZ xs m = x := by
  rcases firstI_cases (fun k => atZ xs k == x) xs.length with ⟨h1, h2⟩ | ⟨m, h1, h2, h3, _⟩
  · exact .inl ⟨h1, fun j hj => by simpa using h2 j hj⟩
  · exact .inr ⟨m, h1, h2, by simpa using h3⟩

theorem plc_num {n : Nat} {x : Int} : plc (numK n) x = if 1 ≤ x ∧ x ≤ (n : Int) then x - 1 else -1 := by
  by_cases h : 1 ≤ x ∧ x ≤ (n : Int)
  · rw [if_pos h]
    have := plc_hit (xs := numK n) (x := x) (m := (x - 1).toNat) (by rw [numK_len]; omega) (by rw [numK_at (by omega)]; omega) (fun j hj => by rw [numK_at (by omega)]; omega)
    rw [this]; omega
  · rw [if_neg h]
    exact plc_miss fun j hj => by
      rw [numK_len] at hj
      rw [numK_at hj]; omega

set_option maxRecDepth 100000 in
theorem idxSeq (xs : List Int) (v : Value) (x : Int) (w : World) (hv : Seq w v xs) : Calls Tryz.prog 101 #[v, .int .i64 x] w (IntIs (plc xs x) w) := by
  have hlen := hv.len
  have HV := Lib.hid hv
  obtain ⟨A, c, rfl⟩ := seq_form2 hv
  clear hv
  have HHIT := Lib.hid (fun m hm h hb => plc_hit (xs := xs) (x := x) (m := m) hm h hb)
  have HMISS := Lib.hid (fun h => plc_miss (xs := xs) (x := x) h)
  generalize plc xs x = r at *
  go_enter Tryz.func101, Tryz.ntmps101
  go_wp2_with fail
  go_loopw [8] (fun i wr => ∃ m : Nat, m ≤ xs.length ∧ i = .int .i64 m ∧ (∀ j, j < m → atZ xs j ≠ x) ∧ Held w wr []) (fun i _ => xs.length - (intOf i).toNat)
  case atStart => exact ⟨0, Nat.zero_le _, rfl, fun j hj => by omega, Held.none_ w⟩
  case round =>
    obtain ⟨m, hm, rfl, ha, hh⟩ := hrel
    have HA := Lib.hid ha; clear ha
    have H1 := Lib.hid hh; clear hh
    by_cases hlt : m < xs.length
    · obtain ⟨A6', c6', e6, -, -, hcs⟩ := (HV.out.step H1.out.below).form
      simp only [Value.slice.injEq] at e6
      obtain ⟨rfl, -, -⟩ := e6
      obtain ⟨bb, oo, rfl, -, k0⟩ := hcs m hlt
      clear hcs
      have q1 : (0 : Int) ≤ m := by omega
      have q2 : (m : Int) < (xs.length : Int) := by omega
      have HHM := Lib.hid (fun h => HHIT.out m hlt h HA.out)
      have HAM := Lib.hid (fun (h : atZ xs m ≠ x) => (fun j (hj : j < m + 1) => (if e : j = m then e ▸ h else HA.out j (by omega)) : ∀ j, j < m + 1 → atZ xs j ≠ x))
      generalize atZ xs m = z at *
      by_cases hz : z = x
      · have HR := Lib.hid (HHM.out hz)
        have hzb : (x == z) = true := by simp [hz]
        clear hz
        go_wp2_with fail
        go_ret
        exact ⟨ret_int HR.out.symm, H1.out.below⟩
      · have HR := Lib.hid (HAM.out hz)
        have hzb : (x == z) = false := by rw [beq_eq_false_iff_ne]; exact fun e => hz e.symm
        have hzd : decide (x = z) = false := by simpa using fun e : x = z => hz e.symm
        clear hz
        go_wp2_with fail
        exact ⟨⟨m + 1, by omega, by go_num, HR.out, H1.out⟩, by simp [intOf]; omega⟩
    · obtain rfl : m = xs.length := by omega
      have HR := Lib.hid (HMISS.out HA.out)
      go_wp2_with fail
      go_ret
      exact ⟨ret_int HR.out.symm, H1.out.below⟩

/-- The face with number n in a list of faces, or -1. -/
def fwnI (xs : List Int) (n : Int) : Int := if 1 ≤ n ∧ n ≤ (xs.length : Int) then atZ xs (n - 1).toNat else -1

set_option maxRecDepth 100000 in
theorem implKeyOf (xs : List Int) (B : Nat) (vf vk : Value) (f : Int) (w : World) (hf : Ints w B vf xs) (hk : Ints w B vk (numK xs.length)) (h12 : xs.length ≤ 12) :
    Calls Tryz.prog 63 #[.agg #[vf, vk], .int .i64 f] w (IntIs (plc xs f + 1) w) := by
  have HX := Lib.hid (fun w h => idxSeq xs vf f w h)
  unfold IntIs at HX
  have H0 := Lib.hid ((Held.none_ w).new2 w.heap.size rfl [vf, vk] 79)
  simp only [newFs, List.cons_append, List.nil_append, List.append_nil] at H0
  have HF := Lib.hid hf.seq
  have HK := Lib.hid hk.seq
  have HKA := Lib.hid (fun k (h : k < xs.length) => numK_at h)
  have HKL := Lib.hid (numK_len xs.length)
  obtain ⟨a, c, rfl⟩ := ints_form hf
  obtain ⟨a2, c2, rfl⟩ := ints_form hk
  clear hf hk
  generalize numK xs.length = ks at *
  have HC := Lib.hid (plc_cases xs f)
  generalize plc xs f = r at *
  rcases HC.out with ⟨h1, -⟩ | ⟨m, h1, hm, -⟩
  · subst h1
    go_enter Tryz.func63, Tryz.ntmps63
    obtain ⟨x0, x1, _⟩ := H0.out.1
    go_wp2_with fail
    refine (HX.out _ (HF.out.step H0.out.below)).mono ?_
    rintro e wH1 ⟨rfl, hb⟩
    have H1 := Lib.hid ((H0.out).step hb); clear hb
    try clear x0 x1
    obtain ⟨x0, x1, _⟩ := H1.out.1
    go_wp2_with fail
    go_ret
    exact ⟨rfl, H1.out.below⟩
  · subst h1
    go_enter Tryz.func63, Tryz.ntmps63
    obtain ⟨x0, x1, _⟩ := H0.out.1
    go_wp2_with fail
    refine (HX.out _ (HF.out.step H0.out.below)).mono ?_
    rintro e w1 ⟨rfl, hb⟩
    have H1 := Lib.hid (H0.out.step hb)
    clear hb x0 x1
    obtain ⟨x0, x1, _⟩ := H1.out.1
    obtain ⟨A6', c6', e6, -, -, hcs⟩ := (HK.out.step H1.out.below).form
    simp only [Value.slice.injEq] at e6
    obtain ⟨rfl, -, -⟩ := e6
    obtain ⟨bb, oo, rfl, -, k0⟩ := hcs m (by have := HKL.out; omega)
    rw [HKA.out m hm] at k0
    clear hcs
    have q1 : (0 : Int) ≤ m := by omega
    have q2 : (m : Int) < (ks.length : Int) := by have := HKL.out; omega
    go_wp2_with fail
    go_ret
    exact ⟨rfl, H1.out.below⟩

set_option maxRecDepth 100000 in
theorem implFaceWithN (xs : List Int) (B : Nat) (vf vk : Value) (n : Int) (w : World) (hf : Ints w B vf xs) (hk : Ints w B vk (numK xs.length)) (h12 : xs.length ≤ 12) :
    Calls Tryz.prog 65 #[.agg #[vf, vk], .int .i64 n] w (IntIs (fwnI xs n) w) := by
  have HX := Lib.hid (fun w h => idxSeq (numK xs.length) vk n w h)
  unfold IntIs at HX
  have H0 := Lib.hid ((Held.none_ w).new2 w.heap.size rfl [vf, vk] 79)
  simp only [newFs, List.cons_append, List.nil_append, List.append_nil] at H0
  have HF := Lib.hid hf.seq
  have HK := Lib.hid hk.seq
  rw [plc_num] at HX
  obtain ⟨a, c, rfl⟩ := ints_form hf
  obtain ⟨a2, c2, rfl⟩ := ints_form hk
  clear hf hk
  generalize numK xs.length = ks at *
  by_cases h : 1 ≤ n ∧ n ≤ (xs.length : Int)
  · have HR := Lib.hid (show fwnI xs n = atZ xs (n - 1).toNat from if_pos h)
    rw [if_pos h] at HX
    generalize fwnI xs n = r at *
    obtain ⟨m, hm1, hm2⟩ : ∃ m : Nat, n - 1 = (m : Int) ∧ m < xs.length := ⟨(n - 1).toNat, by omega, by omega⟩
    rw [hm1] at HX HR
    rw [Int.toNat_natCast] at HR
    clear h hm1
    go_enter Tryz.func65, Tryz.ntmps65
    obtain ⟨x0, x1, _⟩ := H0.out.1
    go_wp2_with fail
    refine (HX.out _ (HK.out.step H0.out.below)).mono ?_
    rintro e w1 ⟨rfl, hb⟩
    have H1 := Lib.hid (H0.out.step hb)
    clear hb x0 x1
    obtain ⟨x0, x1, _⟩ := H1.out.1
    obtain ⟨A6', c6', e6, -, -, hcs⟩ := (HF.out.step H1.out.below).form
    simp only [Value.slice.injEq] at e6
    obtain ⟨rfl, -, -⟩ := e6
    obtain ⟨bb, oo, rfl, -, k0⟩ := hcs m hm2
    clear hcs
    have q1 : (0 : Int) ≤ m := by omega
    have q2 : (m : Int) < (xs.length : Int) := by omega
    generalize atZ xs m = z at *
    go_wp2_with fail
    go_ret
    exact ⟨ret_int HR.out.symm, H1.out.below⟩
  · have HR := Lib.hid (show fwnI xs n = -1 from if_neg h)
    rw [if_neg h] at HX
    generalize fwnI xs n = r at *
    clear h
    go_enter Tryz.func65, Tryz.ntmps65
    obtain ⟨x0, x1, _⟩ := H0.out.1
    go_wp2_with fail
    refine (HX.out _ (HK.out.step H0.out.below)).mono ?_
    rintro e wH1 ⟨rfl, hb⟩
    have H1 := Lib.hid ((H0.out).step hb); clear hb
    try clear x0 x1
    obtain ⟨x0, x1, _⟩ := H1.out.1
    go_wp2_with fail
    go_ret
    exact ⟨ret_int HR.out.symm, H1.out.below⟩

set_option maxRecDepth 100000 in
theorem implNumberOf (ns ls : List Nd) (vn vl : Value) (f : Int) (w : World) (hn : Prs w vn ns) (hl : Prs w vl ls) :
    Calls Tryz.prog 31 #[.agg #[vn, vl], .int .i64 f] w (IntIs (plc (readL ns ls) f + 1) w) := by
  have HS := Lib.hid (fun v1 v2 v3 v4 B w h1 h2 h3 h4 h12 => implNumG v1 v2 v3 v4 (wF ns ls) (gA ns ls) (gN ns ls) (gL ns ls) B w h1 h2 h3 h4 (g_ok ns ls) (g_len ns ls).2 h12)
  rw [g_outer] at HS
  have HS := Lib.hid (fun v1 v2 v3 v4 B w h1 h2 h3 h4 => HS.out v1 v2 v3 v4 B w h1 h2 h3 h4 (inn_twelve ns ls))
  rw [show fltN (innP (outW ns ls)) (wF ns ls).length = innW ns ls from rfl, read_congr] at HS
  unfold NumsNew at HS
  have HKY := Lib.hid (fun vf vk B w h1 h2 => implKeyOf (readL ns ls) B vf vk f w h1 h2 (readL_twelve ns ls))
  unfold IntIs at HKY
  have HN := Lib.hid hn
  have HL := Lib.hid hl
  have HGL := Lib.hid (fun w h1 h2 => implGlass ns ls vn vl w h1 h2)
  unfold GlassNew at HGL
  have H0 := Lib.hid (held_pair w vn vl 31)
  obtain ⟨A, c, rfl⟩ := prs_form2 hn
  obtain ⟨A2, c2, rfl⟩ := prs_form2 hl
  clear hn hl
  generalize plc (readL ns ls) f + 1 = res at *
  generalize readL ns ls = xs at *
  generalize gN ns ls = ns' at *
  generalize gL ns ls = ls' at *
  generalize gA ns ls = ds at *
  generalize wF ns ls = rs at *
  generalize wholeB ns ls = ok at *
  go_enter Tryz.func31, Tryz.ntmps31
  go_wp2_with fail
  refine (HGL.out _ (HN.out.step H0.out.below) (HL.out.step H0.out.below)).mono ?_
  rintro e w1 ⟨v1, v2, v3, v4, rfl, g1, g2, g3, g4, hb⟩
  have H1 := Lib.hid (H0.out.step hb)
  have G0 := Lib.hid (heldG w1 v1 v2 v3 v4 66)
  have B1 := Lib.hid (H1.out.below.trans (G0.out.below.mono H1.out.below.size))
  have G1 := Lib.hid (g1.step G0.out.below)
  have G2 := Lib.hid (g2.step G0.out.below)
  have G3 := Lib.hid (g3.step G0.out.below)
  have G4 := Lib.hid (g4.step G0.out.below)
  obtain ⟨A5, c5, rfl⟩ := prs_form2 g1
  obtain ⟨A6, c6, rfl⟩ := prs_form2 g2
  obtain ⟨A7, c7, rfl⟩ := faces_form g3
  obtain ⟨A8, c8, rfl⟩ := ints_form g4
  clear hb g1 g2 g3 g4
  obtain ⟨x0, x1, _⟩ := H1.out.1
  obtain ⟨y0, y1, y2, y3, _⟩ := G0.out.1
  go_wp2_with fail
  refine (HS.out _ _ _ _ _ _ G1.out G2.out G3.out G4.out).mono ?_
  rintro e w2 ⟨vf, vk, rfl, hf, hk, hb⟩
  have B2 := Lib.hid (B1.out.trans (hb.mono B1.out.size))
  have HF := Lib.hid hf
  have HK := Lib.hid hk
  obtain ⟨a9, c9, rfl⟩ := ints_form hf
  obtain ⟨a8, c8, rfl⟩ := ints_form hk
  clear hb hf hk
  go_wp2_with fail
  refine (HKY.out _ _ _ _ HF.out HK.out).mono ?_
  rintro e w3 ⟨rfl, hb⟩
  have B3 := Lib.hid (B2.out.trans (hb.mono B2.out.size)); clear hb
  go_wp2_with fail
  go_ret
  exact ⟨rfl, B3.out⟩

set_option maxRecDepth 100000 in
theorem implFaceN (ns ls : List Nd) (vn vl : Value) (n : Int) (w : World) (hn : Prs w vn ns) (hl : Prs w vl ls) :
    Calls Tryz.prog 33 #[.agg #[vn, vl], .int .i64 n] w (IntIs (fwnI (readL ns ls) n) w) := by
  have HS := Lib.hid (fun v1 v2 v3 v4 B w h1 h2 h3 h4 h12 => implNumG v1 v2 v3 v4 (wF ns ls) (gA ns ls) (gN ns ls) (gL ns ls) B w h1 h2 h3 h4 (g_ok ns ls) (g_len ns ls).2 h12)
  rw [g_outer] at HS
  have HS := Lib.hid (fun v1 v2 v3 v4 B w h1 h2 h3 h4 => HS.out v1 v2 v3 v4 B w h1 h2 h3 h4 (inn_twelve ns ls))
  rw [show fltN (innP (outW ns ls)) (wF ns ls).length = innW ns ls from rfl, read_congr] at HS
  unfold NumsNew at HS
  have HKY := Lib.hid (fun vf vk B w h1 h2 => implFaceWithN (readL ns ls) B vf vk n w h1 h2 (readL_twelve ns ls))
  unfold IntIs at HKY
  have HN := Lib.hid hn
  have HL := Lib.hid hl
  have HGL := Lib.hid (fun w h1 h2 => implGlass ns ls vn vl w h1 h2)
  unfold GlassNew at HGL
  have H0 := Lib.hid (held_pair w vn vl 31)
  obtain ⟨A, c, rfl⟩ := prs_form2 hn
  obtain ⟨A2, c2, rfl⟩ := prs_form2 hl
  clear hn hl
  generalize fwnI (readL ns ls) n = res at *
  generalize readL ns ls = xs at *
  generalize gN ns ls = ns' at *
  generalize gL ns ls = ls' at *
  generalize gA ns ls = ds at *
  generalize wF ns ls = rs at *
  generalize wholeB ns ls = ok at *
  go_enter Tryz.func33, Tryz.ntmps33
  go_wp2_with fail
  refine (HGL.out _ (HN.out.step H0.out.below) (HL.out.step H0.out.below)).mono ?_
  rintro e w1 ⟨v1, v2, v3, v4, rfl, g1, g2, g3, g4, hb⟩
  have H1 := Lib.hid (H0.out.step hb)
  have G0 := Lib.hid (heldG w1 v1 v2 v3 v4 66)
  have B1 := Lib.hid (H1.out.below.trans (G0.out.below.mono H1.out.below.size))
  have G1 := Lib.hid (g1.step G0.out.below)
  have G2 := Lib.hid (g2.step G0.out.below)
  have G3 := Lib.hid (g3.step G0.out.below)
  have G4 := Lib.hid (g4.step G0.out.below)
  obtain ⟨A5, c5, rfl⟩ := prs_form2 g1
  obtain ⟨A6, c6, rfl⟩ := prs_form2 g2
  obtain ⟨A7, c7, rfl⟩ := faces_form g3
  obtain ⟨A8, c8, rfl⟩ := ints_form g4
  clear hb g1 g2 g3 g4
  obtain ⟨x0, x1, _⟩ := H1.out.1
  obtain ⟨y0, y1, y2, y3, _⟩ := G0.out.1
  go_wp2_with fail
  refine (HS.out _ _ _ _ _ _ G1.out G2.out G3.out G4.out).mono ?_
  rintro e w2 ⟨vf, vk, rfl, hf, hk, hb⟩
  have B2 := Lib.hid (B1.out.trans (hb.mono B1.out.size))
  have HF := Lib.hid hf
  have HK := Lib.hid hk
  obtain ⟨a9, c9, rfl⟩ := ints_form hf
  obtain ⟨a8, c8, rfl⟩ := ints_form hk
  clear hb hf hk
  go_wp2_with fail
  refine (HKY.out _ _ _ _ HF.out HK.out).mono ?_
  rintro e w3 ⟨rfl, hb⟩
  have B3 := Lib.hid (B2.out.trans (hb.mono B2.out.size)); clear hb
  go_wp2_with fail
  go_ret
  exact ⟨rfl, B3.out⟩

set_option maxRecDepth 100000 in
theorem specNumberOf (ns ls : List Nd) (vn vl : Value) (f : Int) (w : World) (hn : Prs w vn ns) (hl : Prs w vl ls) :
    Calls Tryz.prog 30 #[.agg #[vn, vl], .int .i64 f] w (IntIs (plc (readL ns ls) f + 1) w) := by
  have HN := Lib.hid hn
  have HL := Lib.hid hl
  have HRD := Lib.hid (fun w h1 h2 => specRead ns ls vn vl w h1 h2)
  unfold IntsNew at HRD
  have h12 := readL_twelve ns ls
  have H0 := Lib.hid (held_pair w vn vl 31)
  obtain ⟨A, c, rfl⟩ := prs_form2 hn
  obtain ⟨A2, c2, rfl⟩ := prs_form2 hl
  clear hn hl
  have HHIT := Lib.hid (fun m hm h hb => plc_hit (xs := readL ns ls) (x := f) (m := m) hm h hb)
  have HMISS := Lib.hid (fun h => plc_miss (xs := readL ns ls) (x := f) h)
  generalize plc (readL ns ls) f = r at *
  generalize readL ns ls = xs at *
  go_enter Tryz.func30, Tryz.ntmps30
  obtain ⟨x0, x1, _⟩ := H0.out.1
  go_wp2_with fail
  refine (HRD.out _ (HN.out.step H0.out.below) (HL.out.step H0.out.below)).mono ?_
  rintro e w1 ⟨v, rfl, hv, hb⟩
  have HB1 := Lib.hid (H0.out.below.trans (hb.mono H0.out.below.size))
  have H2 := Lib.hid (Held.none_ w1)
  have HV := Lib.hid hv.seq
  obtain ⟨av, cv, rfl⟩ := ints_form hv
  clear hb hv x0 x1
  go_wp2_with fail
  go_loopw [6] (fun i wr => ∃ m : Nat, m ≤ xs.length ∧ i = .int .i64 m ∧ (∀ j, j < m → atZ xs j ≠ f) ∧ Held w1 wr []) (fun i _ => xs.length - (intOf i).toNat)
  case atStart => exact ⟨0, Nat.zero_le _, rfl, fun j hj => by omega, H2.out⟩
  case round =>
    clear H2
    obtain ⟨m, hm, rfl, ha, hh⟩ := hrel
    have HA := Lib.hid ha; clear ha
    have H1 := Lib.hid hh; clear hh
    by_cases hlt : m < xs.length
    · obtain ⟨A6', c6', e6, -, -, hcs⟩ := (HV.out.step H1.out.below).form
      simp only [Value.slice.injEq] at e6
      obtain ⟨rfl, -, -⟩ := e6
      obtain ⟨bb, oo, rfl, -, k0⟩ := hcs m hlt
      clear hcs
      have q1 : (0 : Int) ≤ m := by omega
      have q2 : (m : Int) < (xs.length : Int) := by omega
      have HHM := Lib.hid (fun h => HHIT.out m hlt h HA.out)
      have HAM := Lib.hid (fun (h : atZ xs m ≠ f) => (fun j (hj : j < m + 1) => (if e : j = m then e ▸ h else HA.out j (by omega)) : ∀ j, j < m + 1 → atZ xs j ≠ f))
      generalize atZ xs m = z at *
      by_cases hz : z = f
      · have HR := Lib.hid (HHM.out hz)
        have hzb : (z == f) = true := by simp [hz]
        have ew : IntKind.i64.wrap ((m : Int) + 1) = (m : Int) + 1 := IntWalk.i64_in _ (by omega)
        clear hz
        go_wp2_with fail
        go_ret
        exact ⟨ret_int (by rw [HR.out]), HB1.out.trans (H1.out.below.mono HB1.out.size)⟩
      · have HR := Lib.hid (HAM.out hz)
        have hzb : (z == f) = false := by rw [beq_eq_false_iff_ne]; exact hz
        have hzd : decide (z = f) = false := by simpa using hz
        clear hz
        go_wp2_with fail
        exact ⟨⟨m + 1, by omega, by go_num, HR.out, H1.out⟩, by simp [intOf]; omega⟩
    · obtain rfl : m = xs.length := by omega
      have HR := Lib.hid (HMISS.out HA.out)
      go_wp2_with fail
      go_ret
      exact ⟨ret_int (by rw [HR.out]; rfl), HB1.out.trans (H1.out.below.mono HB1.out.size)⟩

set_option maxRecDepth 100000 in
theorem specFaceN (ns ls : List Nd) (vn vl : Value) (n : Int) (w : World) (hn : Prs w vn ns) (hl : Prs w vl ls) :
    Calls Tryz.prog 32 #[.agg #[vn, vl], .int .i64 n] w (IntIs (fwnI (readL ns ls) n) w) := by
  have HN := Lib.hid hn
  have HL := Lib.hid hl
  have HRD := Lib.hid (fun w h1 h2 => specRead ns ls vn vl w h1 h2)
  unfold IntsNew at HRD
  have h12 := readL_twelve ns ls
  have H0 := Lib.hid (held_pair w vn vl 31)
  obtain ⟨A, c, rfl⟩ := prs_form2 hn
  obtain ⟨A2, c2, rfl⟩ := prs_form2 hl
  clear hn hl
  have HIN := Lib.hid (fun w => specIn n 1 ((readL ns ls).length : Int) w)
  by_cases h : 1 ≤ n ∧ n ≤ ((readL ns ls).length : Int)
  · have HR := Lib.hid (show fwnI (readL ns ls) n = atZ (readL ns ls) (n - 1).toNat from if_pos h)
    rw [show inB n 1 ((readL ns ls).length : Int) = true from (inB_iff _ _ _).2 h] at HIN
    obtain ⟨m, hm1, hm2⟩ : ∃ m : Nat, n - 1 = (m : Int) ∧ m < (readL ns ls).length := ⟨(n - 1).toNat, by omega, by omega⟩
    have ew : IntKind.i64.wrap (n - 1) = (m : Int) := by rw [IntWalk.i64_in _ (by omega)]; exact hm1
    rw [hm1, Int.toNat_natCast] at HR
    clear h hm1
    generalize fwnI (readL ns ls) n = r at *
    generalize readL ns ls = xs at *
    go_enter Tryz.func32, Tryz.ntmps32
    obtain ⟨x0, x1, _⟩ := H0.out.1
    go_wp2_with fail
    refine (HRD.out _ (HN.out.step H0.out.below) (HL.out.step H0.out.below)).mono ?_
    rintro e w1 ⟨v, rfl, hv, hb⟩
    have HB1 := Lib.hid (H0.out.below.trans (hb.mono H0.out.below.size))
    have H2 := Lib.hid (Held.none_ w1)
    have HV := Lib.hid hv.seq
    obtain ⟨av, cv, rfl⟩ := ints_form hv
    clear hb hv x0 x1
    go_wp2_with fail
    refine (HIN.out _).mono ?_
    rintro e w9 ⟨rfl, rfl⟩
    obtain ⟨A6', c6', e6, -, -, hcs⟩ := HV.out.form
    simp only [Value.slice.injEq] at e6
    obtain ⟨rfl, -, -⟩ := e6
    obtain ⟨bb, oo, rfl, -, k0⟩ := hcs m hm2
    clear hcs
    have q1 : (0 : Int) ≤ m := by omega
    have q2 : (m : Int) < (xs.length : Int) := by omega
    generalize atZ xs m = z at *
    go_wp2_with fail
    go_ret
    exact ⟨ret_int HR.out.symm, HB1.out⟩
  · have HR := Lib.hid (show fwnI (readL ns ls) n = -1 from if_neg h)
    rw [show inB n 1 ((readL ns ls).length : Int) = false from by
      rw [Bool.eq_false_iff]; intro h2; exact h ((inB_iff _ _ _).1 h2)] at HIN
    clear h
    generalize fwnI (readL ns ls) n = r at *
    generalize readL ns ls = xs at *
    go_enter Tryz.func32, Tryz.ntmps32
    obtain ⟨x0, x1, _⟩ := H0.out.1
    go_wp2_with fail
    refine (HRD.out _ (HN.out.step H0.out.below) (HL.out.step H0.out.below)).mono ?_
    rintro e w1 ⟨v, rfl, hv, hb⟩
    have HB1 := Lib.hid (H0.out.below.trans (hb.mono H0.out.below.size))
    have H2 := Lib.hid (Held.none_ w1)
    have HV := Lib.hid hv.seq
    obtain ⟨av, cv, rfl⟩ := ints_form hv
    clear hb hv x0 x1
    go_wp2_with fail
    refine (HIN.out _).mono ?_
    rintro e w9 ⟨rfl, rfl⟩
    go_wp2_with fail
    go_ret
    exact ⟨ret_int HR.out.symm, HB1.out⟩
end Go.Proofs.YtmboilogcnmlnaaGreat
