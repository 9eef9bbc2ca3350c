/-
  The turns along a border, of the program.
-/
import Derived.Test.YtnonebfdognlmabGreatPaneS
import Derived.Test.YtnonebfdognlmabGreatDetA
namespace Go.Proofs.YtnonebfdognlmabGreat
open Go.RowKit
set_option linter.unusedVariables false
set_option linter.unusedSimpArgs false

def tuA (ns : List Nd) (xs : List Int) (m : Nat) : Int := turnOf (atN ns (atZ xs ((m + xs.length - 1) % xs.length)).toNat) (atN ns (atZ xs m).toNat) (atN ns (atZ xs ((m + 1) % xs.length)).toNat)
def tuL (ns : List Nd) (xs : List Int) (n : Nat) : List Int := (List.range n).map (tuA ns xs)
theorem tuL_succ (ns : List Nd) (xs : List Int) (n : Nat) : tuL ns xs (n + 1) = tuL ns xs n ++ [tuA ns xs n] := by simp [tuL, List.range_succ]
theorem tuL_len (ns : List Nd) (xs : List Int) (n : Nat) : (tuL ns xs n).length = n := by simp [tuL]
/-- The ints name nodes. -/
def NodesOf (ns : List Nd) (xs : List Int) : Prop := ∀ i, i < xs.length → ∃ a : Nat, atZ xs i = a ∧ a < ns.length ∧ okB (atN ns a) = true
theorem bord_nodes {ns ls : List Nd} {r : List Int} (hw : winB ns ls = true) (hd : DartsOf ls r) : NodesOf ns (bord ls r) := by
  intro i hi
  rw [bord_len] at hi
  obtain ⟨q, hq, hq2⟩ := hd i hi
  obtain ⟨a, b, ha, hb, ha2, hb2, _⟩ := dart_nat hw hq2
  refine ⟨a, ?_, ha2, (((winB_iff ns ls).1 hw).2.1 a ha2).1⟩
  have e : atZ (bord ls r) i = dF ls (atZ r i).toNat := by
    unfold bord bordL atZ
    rw [List.take_length]
    simp [List.getD, hi]
  rw [e, hq]
  exact ha
theorem rem_back {m n : Nat} (h : m < n) : ((m : Int) + n - 1) % (n : Int) = ((m + n - 1) % n : Nat) ∧ (m + n - 1) % n < n := by
  refine ⟨?_, Nat.mod_lt _ (by omega)⟩
  rw [show (m : Int) + n - 1 = ((m + n - 1 : Nat) : Int) by omega]
  exact (Int.natCast_emod _ _).symm
theorem rem_next {m n : Nat} (h : m < n) : ((m : Int) + 1) % (n : Int) = ((m + 1) % n : Nat) ∧ (m + 1) % n < n := by
  refine ⟨?_, Nat.mod_lt _ (by omega)⟩
  rw [show (m : Int) + 1 = ((m + 1 : Nat) : Int) by omega]
  exact (Int.natCast_emod _ _).symm

set_option maxRecDepth 100000 in
set_option maxHeartbeats 4000000 in
theorem implTurns (v1 v2 v3 v4 : Value) (rs : List (List Int)) (ds : List Int) (ns ls : List Nd) (B B2 k : Nat) (w : World) (hn : Prs w v1 ns) (hl : Prs w v2 ls) (hf : Faces w B v3 rs) (ha : Ints w B2 v4 ds) (hok : RowsOk ns ls rs) (hk : k < rs.length) (h20 : ls.length ≤ 20) :
    Calls Tryz.prog 66 #[.agg #[v1, v2, v3, v4], .int .i64 k] w (IntsNew (tuL ns (bord ls (atR rs k)) (bord ls (atR rs k)).length) w) := by
  have HB := Lib.hid (fun W hb => implBorder v1 v2 v3 v4 rs ds ns ls B B2 k W (hn.step hb) (hl.step hb) (hf.step hb) (ha.step hb) hok hk h20)
  unfold IntsNew at HB
  obtain ⟨hw, hd, h4⟩ := hok.2 k hk
  have HNO := Lib.hid (bord_nodes hw hd)
  have hxl : (bord ls (atR rs k)).length ≤ 40 := by rw [bord_len]; exact h4
  have HN := Lib.hid hn
  obtain ⟨A, c, rfl⟩ := prs_form2 hn
  obtain ⟨A2, c2, rfl⟩ := prs_form2 hl
  obtain ⟨A3, c3, rfl⟩ := faces_form hf
  obtain ⟨A4, c4, rfl⟩ := ints_form ha
  have H0 := Lib.hid (heldG w (.slice A ns.length c) (.slice A2 ls.length c2) (.slice A3 rs.length c3) (.slice A4 ds.length c4) 66)
  clear hn hl hf ha hok hk h20 hw hd h4
  generalize bord ls (atR rs k) = xs at *
  have HU := Lib.hid (tuL_succ ns xs)
  have HLN := Lib.hid (tuL_len ns xs)
  have HZ := Lib.hid (show tuL ns xs 0 = [] from rfl)
  have HTA := Lib.hid (fun m => show tuA ns xs m = turnOf (atN ns (atZ xs ((m + xs.length - 1) % xs.length)).toNat) (atN ns (atZ xs m).toNat) (atN ns (atZ xs ((m + 1) % xs.length)).toNat) from rfl)
  generalize tuL ns xs = X at *
  generalize tuA ns xs = TA at *
  obtain ⟨x0, x1, x2, x3, _⟩ := H0.out.1
  go_enter Tryz.func66, Tryz.ntmps66
  go_wp2_with fail
  refine (HB.out _ H0.out.below).mono ?_
  rintro e w1 ⟨v, rfl, hv, hb⟩
  have HB1 := Lib.hid (H0.out.below.trans (hb.mono H0.out.below.size))
  have HS := H0.out.step hb
  have H1 := Lib.hid (Held.start (w := w1) HS.1 HS.2.1)
  have hlt1 := HS.2.1.1
  have HLT := Lib.hid hlt1
  obtain ⟨a, cv, rfl⟩ := ints_form hv
  have HV := Lib.hid hv
  clear hb hv HS H0 x0 x1 x2 x3
  obtain ⟨x0, x1, x2, x3, _⟩ := H1.out.1
  go_wp2_with fail
  clear x0 x1 x2 x3 hlt1
  go_loopw [6, 17] (fun v i wr => ∃ m : Nat, m ≤ xs.length ∧ i = .int .i64 m ∧ RowK w1.heap.size v (X m) wr ∧ Held w1 wr [(w.heap.size, 0, .slice A ns.length c), (w.heap.size, 1, .slice A2 ls.length c2), (w.heap.size, 2, .slice A3 rs.length c3), (w.heap.size, 3, .slice A4 ds.length c4)]) (fun _ i _ => xs.length - (intOf i).toNat)
  case atStart => exact ⟨0, Nat.zero_le _, rfl, ⟨by rw [HZ.out]; exact Ints.made _ _ _ rfl (Nat.le_refl _), by simp⟩, H1.out.alloc _⟩
  case round =>
    clear H1
    obtain ⟨m, hm, rfl, hown, hh⟩ := hrel
    have HO := Lib.hid hown; clear hown
    have H1 := Lib.hid hh; clear hh
    by_cases hlt : m < xs.length
    · obtain ⟨j1e, j1l⟩ := rem_back hlt
      obtain ⟨j2e, j2l⟩ := rem_next hlt
      have HTM := Lib.hid (HTA.out m)
      have HUM := Lib.hid (HU.out m)
      have hln := HLN.out m
      generalize (m + xs.length - 1) % xs.length = j1 at *
      generalize (m + 1) % xs.length = j2 at *
      obtain ⟨a1, ha1, hn1, ho1⟩ := HNO.out j1 j1l
      obtain ⟨a0, ha0, hn0, ho0⟩ := HNO.out m hlt
      obtain ⟨a2, ha2, hn2, ho2⟩ := HNO.out j2 j2l
      obtain ⟨A6, c6, e6, -, -, hcs⟩ := (HV.out.step H1.out.below).seq.form
      simp only [Value.slice.injEq] at e6
      obtain ⟨rfl, -, -⟩ := e6
      obtain ⟨bb, oo, rfl, hbl, c0⟩ := hcs m hlt
      obtain ⟨bb', oo', ee, -, c1⟩ := hcs j1 j1l
      simp only [Option.some.injEq, Addr.mk.injEq] at ee
      obtain ⟨rfl, rfl, -⟩ := ee
      obtain ⟨bb', oo', ee, -, c2'⟩ := hcs j2 j2l
      simp only [Option.some.injEq, Addr.mk.injEq] at ee
      obtain ⟨rfl, rfl, -⟩ := ee
      rw [ha0] at c0
      rw [ha1] at c1
      rw [ha2] at c2'
      rw [ha0, ha1, ha2] at HTM
      simp only [Int.toNat_natCast] at HTM
      have HTU := Lib.hid (fun w => implTurnOf (atN ns a1) (atN ns a0) (atN ns a2) w)
      rw [← HTM] at HTU
      unfold IntIs Nd.val at HTU
      obtain ⟨bn, on, cn, he, hbn, hcn⟩ := prs_at2 (HN.out.step HB1.out) hn0
      simp only [Value.slice.injEq] at he
      obtain ⟨rfl, -, -⟩ := he
      have hbnr := Nat.lt_of_lt_of_le hbn H1.out.below.size
      have hce := fun j (h : j < ns.length) => And.intro ((H1.out.below.cell (p := ⟨bn, on + j * 2, none⟩) hbn).trans (hcn j h).1) ((H1.out.below.cell (p := ⟨bn, on + j * 2 + 1, none⟩) hbn).trans (hcn j h).2)
      have H2 := Lib.hid (held_plus H1.out (gs := [(bn, on + a1 * 2, .int .i64 (atN ns a1).x), (bn, on + a1 * 2 + 1, .int .i64 (atN ns a1).y), (bn, on + a0 * 2, .int .i64 (atN ns a0).x), (bn, on + a0 * 2 + 1, .int .i64 (atN ns a0).y), (bn, on + a2 * 2, .int .i64 (atN ns a2).x), (bn, on + a2 * 2 + 1, .int .i64 (atN ns a2).y)])
        ⟨(hce a1 hn1).1, (hce a1 hn1).2, (hce a0 hn0).1, (hce a0 hn0).2, (hce a2 hn2).1, (hce a2 hn2).2, trivial⟩ ⟨hbnr, hbnr, hbnr, hbnr, hbnr, hbnr, trivial⟩)
      have HOI := Lib.hid HO.out.1
      have hble := HO.out.2
      have HBL := Lib.hid hble
      have HBN := Lib.hid hbn
      clear hce hcn hbnr HTM ho0 ho1 ho2 ha0 ha1 ha2 hcs hble hbn
      generalize (atN ns a1).x = ux at *
      generalize (atN ns a1).y = uy at *
      generalize (atN ns a0).x = sx at *
      generalize (atN ns a0).y = sy at *
      generalize (atN ns a2).x = tx at *
      generalize (atN ns a2).y = ty at *
      generalize TA m = t at *
      have p1 : (0 : Int) ≤ m := by omega
      have p2 : (m : Int) < (xs.length : Int) := by omega
      have p3 : (0 : Int) ≤ j1 := by omega
      have p4 : (j1 : Int) < (xs.length : Int) := by omega
      have p5 : (0 : Int) ≤ j2 := by omega
      have p6 : (j2 : Int) < (xs.length : Int) := by omega
      have p7 : (0 : Int) ≤ a1 := by omega
      have p8 : (a1 : Int) < (ns.length : Int) := by omega
      have p9 : (0 : Int) ≤ a0 := by omega
      have p10 : (a0 : Int) < (ns.length : Int) := by omega
      have p11 : (0 : Int) ≤ a2 := by omega
      have p12 : (a2 : Int) < (ns.length : Int) := by omega
      have p13 : (0 : Int) ≤ (m : Int) + xs.length - 1 := by omega
      have p14 : (xs.length : Int) ≠ 0 := by omega
      obtain ⟨x0, x1, x2, x3, x4, x5, x6, x7, x8, x9, _⟩ := H2.out.1
      go_wp2_with fail
      refine regionC (C := fun W => Held w1 W [(w.heap.size, 0, .slice (some ⟨bn, on, none⟩) ns.length c), (w.heap.size, 1, .slice A2 ls.length c2), (w.heap.size, 2, .slice A3 rs.length c3), (w.heap.size, 3, .slice A4 ds.length c4), (bn, on + a1 * 2, .int .i64 (ux)), (bn, on + a1 * 2 + 1, .int .i64 (uy)), (bn, on + a0 * 2, .int .i64 (sx)), (bn, on + a0 * 2 + 1, .int .i64 (sy)), (bn, on + a2 * 2, .int .i64 (tx)), (bn, on + a2 * 2 + 1, .int .i64 (ty))]) (fun W => Held w1 W [(w.heap.size, 0, .slice (some ⟨bn, on, none⟩) ns.length c), (w.heap.size, 1, .slice A2 ls.length c2), (w.heap.size, 2, .slice A3 rs.length c3), (w.heap.size, 3, .slice A4 ds.length c4), (bn, on + a1 * 2, .int .i64 (ux)), (bn, on + a1 * 2 + 1, .int .i64 (uy)), (bn, on + a0 * 2, .int .i64 (sx)), (bn, on + a0 * 2 + 1, .int .i64 (sy)), (bn, on + a2 * 2, .int .i64 (tx)), (bn, on + a2 * 2 + 1, .int .i64 (ty))] ∧ RowK w1.heap.size u6 (X m) W) (by kernel_rfl) ⟨H2.out.drew, HOI.out.step ((Below.refl _ _).drew), HBL.out⟩ ?_
      refine takeC (i := 0) (v := ?_) (Stable.and (Stable.held _ _) (stable_rowK _ _ _)) (fun _ h => h.1) rfl (by kernel_rfl) (by kernel_rfl) (by kernel_rfl) (fun _ _ _ h => h) ?_ ?_
      rotate_left
      · first | (refine Or.inl ⟨by rfl, fun W hS => detR_value (w' := W) ?_ (Below.refl _ _)⟩; obtain ⟨x0, x1, x2, x3, x4, x5, x6, x7, x8, x9, _⟩ := hS.1; go_simp; first | done | with_reducible rfl) | fail
      simp only [Act.put, List.setIfInBounds_toArray, List.set_cons_zero, List.set_cons_succ]
      refine takeC (i := 1) (v := ?_) (Stable.and (Stable.held _ _) (stable_rowK _ _ _)) (fun _ h => h.1) rfl (by kernel_rfl) (by kernel_rfl) (by kernel_rfl) (fun _ _ _ h => h) ?_ ?_
      rotate_left
      · first | (refine Or.inl ⟨by rfl, fun W hS => detR_value (w' := W) ?_ (Below.refl _ _)⟩; obtain ⟨x0, x1, x2, x3, x4, x5, x6, x7, x8, x9, _⟩ := hS.1; go_simp; first | done | with_reducible rfl) | fail
      simp only [Act.put, List.setIfInBounds_toArray, List.set_cons_zero, List.set_cons_succ]
      refine takeC (i := 2) (v := ?_) (Stable.and (Stable.held _ _) (stable_rowK _ _ _)) (fun _ h => h.1) rfl (by kernel_rfl) (by kernel_rfl) (by kernel_rfl) (fun _ _ _ h => h) ?_ ?_
      rotate_left
      · first | (refine Or.inl ⟨by rfl, fun W hS => detR_value (w' := W) ?_ (Below.refl _ _)⟩; obtain ⟨x0, x1, x2, x3, x4, x5, x6, x7, x8, x9, _⟩ := hS.1; go_simp; first | done | with_reducible rfl) | fail
      simp only [Act.put, List.setIfInBounds_toArray, List.set_cons_zero, List.set_cons_succ]
      refine takeC (i := 3) (v := ?_) (Stable.and (Stable.held _ _) (stable_rowK _ _ _)) (fun _ h => h.1) rfl (by kernel_rfl) (by kernel_rfl) (by kernel_rfl) (fun _ _ _ h => h) ?_ ?_
      rotate_left
      · first | (refine Or.inl ⟨by rfl, fun W hS => detR_value (w' := W) ?_ (Below.refl _ _)⟩; obtain ⟨x0, x1, x2, x3, x4, x5, x6, x7, x8, x9, _⟩ := hS.1; go_simp; first | done | with_reducible rfl) | fail
      simp only [Act.put, List.setIfInBounds_toArray, List.set_cons_zero, List.set_cons_succ]
      refine takeC (i := 4) (v := ?_) (Stable.and (Stable.held _ _) (stable_rowK _ _ _)) (fun _ h => h.1) rfl (by kernel_rfl) (by kernel_rfl) (by kernel_rfl) (fun _ _ _ h => h) ?_ ?_
      rotate_left
      · first | (refine Or.inl ⟨by rfl, fun W hS => detR_value (w' := W) ?_ (Below.refl _ _)⟩; obtain ⟨x0, x1, x2, x3, x4, x5, x6, x7, x8, x9, _⟩ := hS.1; go_simp; first | done | with_reducible rfl) | fail
      simp only [Act.put, List.setIfInBounds_toArray, List.set_cons_zero, List.set_cons_succ]
      refine takeC (i := 5) (v := ?_) (Stable.and (Stable.held _ _) (stable_rowK _ _ _)) (fun _ h => h.1) rfl (by kernel_rfl) (by kernel_rfl) (by kernel_rfl) (fun _ _ _ h => h) ?_ ?_
      rotate_left
      · first | (refine Or.inl ⟨by rfl, fun W hS => detR_value (w' := W) ?_ (Below.refl _ _)⟩; obtain ⟨x0, x1, x2, x3, x4, x5, x6, x7, x8, x9, _⟩ := hS.1; go_simp; first | done | with_reducible rfl) | fail
      simp only [Act.put, List.setIfInBounds_toArray, List.set_cons_zero, List.set_cons_succ]
      refine takeC (i := 6) (v := ?_) (Stable.and (Stable.held _ _) (stable_rowK _ _ _)) (fun _ h => h.1) rfl (by kernel_rfl) (by kernel_rfl) (by kernel_rfl) (fun _ _ _ h => h) ?_ ?_
      rotate_left
      · first | (refine Or.inl ⟨by rfl, fun W hS => detR_value (w' := W) ?_ (Below.refl _ _)⟩; obtain ⟨x0, x1, x2, x3, x4, x5, x6, x7, x8, x9, _⟩ := hS.1; go_simp; first | done | with_reducible rfl) | fail
      simp only [Act.put, List.setIfInBounds_toArray, List.set_cons_zero, List.set_cons_succ]
      refine takeC (i := 7) (v := ?_) (Stable.and (Stable.held _ _) (stable_rowK _ _ _)) (fun _ h => h.1) rfl (by kernel_rfl) (by kernel_rfl) (by kernel_rfl) (fun _ _ _ h => h) ?_ ?_
      rotate_left
      · first | (refine Or.inl ⟨by rfl, fun W hS => detR_value (w' := W) ?_ (Below.refl _ _)⟩; obtain ⟨x0, x1, x2, x3, x4, x5, x6, x7, x8, x9, _⟩ := hS.1; go_simp; first | done | with_reducible rfl) | fail
      simp only [Act.put, List.setIfInBounds_toArray, List.set_cons_zero, List.set_cons_succ]
      refine takeC (i := 8) (v := ?_) (Stable.and (Stable.held _ _) (stable_rowK _ _ _)) (fun _ h => h.1) rfl (by kernel_rfl) (by kernel_rfl) (by kernel_rfl) (fun _ _ _ h => h) ?_ ?_
      rotate_left
      · first | (refine Or.inl ⟨by rfl, fun W hS => detR_value (w' := W) ?_ (Below.refl _ _)⟩; obtain ⟨x0, x1, x2, x3, x4, x5, x6, x7, x8, x9, _⟩ := hS.1; go_simp; first | done | with_reducible rfl) | fail
      simp only [Act.put, List.setIfInBounds_toArray, List.set_cons_zero, List.set_cons_succ]
      refine takeC (i := 9) (v := ?_) (Stable.and (Stable.held _ _) (stable_rowK _ _ _)) (fun _ h => h.1) rfl (by kernel_rfl) (by kernel_rfl) (by kernel_rfl) (fun _ _ _ h => h) ?_ ?_
      rotate_left
      · first | (refine Or.inl ⟨by rfl, fun W hS => detR_value (w' := W) ?_ (Below.refl _ _)⟩; obtain ⟨x0, x1, x2, x3, x4, x5, x6, x7, x8, x9, _⟩ := hS.1; go_simp; first | done | with_reducible rfl) | fail
      simp only [Act.put, List.setIfInBounds_toArray, List.set_cons_zero, List.set_cons_succ]
      refine takeC (i := 10) (v := ?_) (Stable.and (Stable.held _ _) (stable_rowK _ _ _)) (fun _ h => h.1) rfl (by kernel_rfl) (by kernel_rfl) (by kernel_rfl) (fun _ _ _ h => h) ?_ ?_
      rotate_left
      · first | (refine Or.inl ⟨by rfl, fun W hS => detR_value (w' := W) ?_ (Below.refl _ _)⟩; obtain ⟨x0, x1, x2, x3, x4, x5, x6, x7, x8, x9, _⟩ := hS.1; go_simp; first | done | with_reducible rfl) | fail
      simp only [Act.put, List.setIfInBounds_toArray, List.set_cons_zero, List.set_cons_succ]
      refine takeC (i := 11) (v := ?_) (Stable.and (Stable.held _ _) (stable_rowK _ _ _)) (fun _ h => h.1) rfl (by kernel_rfl) (by kernel_rfl) (by kernel_rfl) (fun _ _ _ h => h) ?_ ?_
      rotate_left
      · first | (refine Or.inl ⟨by rfl, fun W hS => detR_value (w' := W) ?_ (Below.refl _ _)⟩; obtain ⟨x0, x1, x2, x3, x4, x5, x6, x7, x8, x9, _⟩ := hS.1; go_simp; first | done | with_reducible rfl) | fail
      simp only [Act.put, List.setIfInBounds_toArray, List.set_cons_zero, List.set_cons_succ]
      refine takeC (i := 12) (v := ?_) (Stable.and (Stable.held _ _) (stable_rowK _ _ _)) (fun _ h => h.1) rfl (by kernel_rfl) (by kernel_rfl) (by kernel_rfl) (fun _ _ _ h => h) ?_ ?_
      rotate_left
      · first | (refine Or.inl ⟨by rfl, fun W hS => detR_value (w' := W) ?_ (Below.refl _ _)⟩; obtain ⟨x0, x1, x2, x3, x4, x5, x6, x7, x8, x9, _⟩ := hS.1; go_simp; first | done | with_reducible rfl) | fail
      simp only [Act.put, List.setIfInBounds_toArray, List.set_cons_zero, List.set_cons_succ]
      refine takeC (i := 13) (v := ?_) (Stable.and (Stable.held _ _) (stable_rowK _ _ _)) (fun _ h => h.1) rfl (by kernel_rfl) (by kernel_rfl) (by kernel_rfl) (fun _ _ _ h => h) ?_ ?_
      rotate_left
      · first | (refine Or.inl ⟨by rfl, fun W hS => detR_value (w' := W) ?_ (Below.refl _ _)⟩; obtain ⟨x0, x1, x2, x3, x4, x5, x6, x7, x8, x9, _⟩ := hS.1; go_simp; first | done | with_reducible rfl) | fail
      simp only [Act.put, List.setIfInBounds_toArray, List.set_cons_zero, List.set_cons_succ]
      refine takeC (i := 14) (v := ?_) (Stable.and (Stable.held _ _) (stable_rowK _ _ _)) (fun _ h => h.1) rfl (by kernel_rfl) (by kernel_rfl) (by kernel_rfl) (fun _ _ _ h => h) ?_ ?_
      rotate_left
      · first | (refine Or.inl ⟨by rfl, fun W hS => detR_value (w' := W) ?_ (Below.refl _ _)⟩; obtain ⟨x0, x1, x2, x3, x4, x5, x6, x7, x8, x9, _⟩ := hS.1; go_simp; first | done | with_reducible rfl) | fail
      simp only [Act.put, List.setIfInBounds_toArray, List.set_cons_zero, List.set_cons_succ]
      refine takeC (i := 15) (v := ?_) (Stable.and (Stable.held _ _) (stable_rowK _ _ _)) (fun _ h => h.1) rfl (by kernel_rfl) (by kernel_rfl) (by kernel_rfl) (fun _ _ _ h => h) ?_ ?_
      rotate_left
      · first | (refine Or.inl ⟨by rfl, fun W hS => detR_value (w' := W) ?_ (Below.refl _ _)⟩; obtain ⟨x0, x1, x2, x3, x4, x5, x6, x7, x8, x9, _⟩ := hS.1; go_simp; first | done | with_reducible rfl) | fail
      simp only [Act.put, List.setIfInBounds_toArray, List.set_cons_zero, List.set_cons_succ]
      refine takeC (i := 16) (v := ?_) (Stable.and (Stable.held _ _) (stable_rowK _ _ _)) (fun _ h => h.1) rfl (by kernel_rfl) (by kernel_rfl) (by kernel_rfl) (fun _ _ _ h => h) ?_ ?_
      rotate_left
      · first | (refine Or.inl ⟨by rfl, fun W hS => detR_value (w' := W) ?_ (Below.refl _ _)⟩; obtain ⟨x0, x1, x2, x3, x4, x5, x6, x7, x8, x9, _⟩ := hS.1; go_simp; first | done | with_reducible rfl) | fail
      simp only [Act.put, List.setIfInBounds_toArray, List.set_cons_zero, List.set_cons_succ]
      refine takeC (i := 17) (v := ?_) (Stable.and (Stable.held _ _) (stable_rowK _ _ _)) (fun _ h => h.1) rfl (by kernel_rfl) (by kernel_rfl) (by kernel_rfl) (fun _ _ _ h => h) ?_ ?_
      rotate_left
      · first | (refine Or.inl ⟨by rfl, fun W hS => detR_value (w' := W) ?_ (Below.refl _ _)⟩; obtain ⟨x0, x1, x2, x3, x4, x5, x6, x7, x8, x9, _⟩ := hS.1; go_simp; first | done | with_reducible rfl) | fail
      simp only [Act.put, List.setIfInBounds_toArray, List.set_cons_zero, List.set_cons_succ]
      refine takeC (i := 18) (v := ?_) (Stable.and (Stable.held _ _) (stable_rowK _ _ _)) (fun _ h => h.1) rfl (by kernel_rfl) (by kernel_rfl) (by kernel_rfl) (fun _ _ _ h => h) ?_ ?_
      rotate_left
      · first | (refine Or.inl ⟨by rfl, fun W hS => detR_value (w' := W) ?_ (Below.refl _ _)⟩; obtain ⟨x0, x1, x2, x3, x4, x5, x6, x7, x8, x9, _⟩ := hS.1; go_simp; first | done | with_reducible rfl) | fail
      simp only [Act.put, List.setIfInBounds_toArray, List.set_cons_zero, List.set_cons_succ]
      refine takeC (i := 19) (v := ?_) (Stable.and (Stable.held _ _) (stable_rowK _ _ _)) (fun _ h => h.1) rfl (by kernel_rfl) (by kernel_rfl) (by kernel_rfl) (fun _ _ _ h => h) ?_ ?_
      rotate_left
      · first | (refine Or.inl ⟨by rfl, fun W hS => ?_⟩; refine detR_call (w' := W) (f := ?_) (args := ?_) ?_ ?_; rotate_left 2; (go_simp; (refine ⟨?_, ?_⟩ <;> with_reducible rfl)); (first | (with_reducible refine (HTU.out _).mono ?_) | fail); (first | (rintro e wn ⟨rfl, hb⟩; refine ⟨?_, hb⟩; with_reducible rfl) | (rintro e wn ⟨rfl, rfl⟩; refine ⟨?_, Below.refl _ _⟩; with_reducible rfl) | fail)) | fail
      simp only [Act.put, List.setIfInBounds_toArray, List.set_cons_zero, List.set_cons_succ]
      refine freeC (i := 20) (OneB (.int .i64 t)) (Stable.and (Stable.held _ _) (stable_rowK _ _ _)) (fun _ h => h.1) (fun v => stable_oneB _ v) rfl (by kernel_rfl) (by rfl) (fun W hS => freeR_one (by go_simp; first | done | with_reducible rfl)) (fun v1H3 => ?_)
      simp only [Act.put, List.setIfInBounds_toArray, List.set_cons_zero, List.set_cons_succ]
      refine appC (i := 21) (x := t) (Operand.tmp 41) (Operand.tmp 61) rfl (by kernel_rfl) (by rfl) rfl (by rfl) (by rfl) ⟨HLT.out, HLT.out, HLT.out, HLT.out, HBN.out, HBN.out, HBN.out, HBN.out, HBN.out, HBN.out, trivial⟩ (Nat.le_refl _) (by omega) (fun vaH3 => ?_)
      simp only [Act.put, List.setIfInBounds_toArray, List.set_cons_zero, List.set_cons_succ]
      refine takeC (i := 22) (v := ?_) (Stable.and (Stable.held _ _) (stable_rowK _ _ _)) (fun _ h => h.1) rfl (by kernel_rfl) (by kernel_rfl) (by kernel_rfl) (fun _ _ _ h => h) ?_ ?_
      rotate_left
      · first | (refine Or.inl ⟨by rfl, fun W hS => detR_value (w' := W) ?_ (Below.refl _ _)⟩; obtain ⟨x0, x1, x2, x3, x4, x5, x6, x7, x8, x9, _⟩ := hS.1; go_simp; first | done | with_reducible rfl) | fail
      simp only [Act.put, List.setIfInBounds_toArray, List.set_cons_zero, List.set_cons_succ]
      refine doneC (by kernel_rfl) fun wH3 HG => ?_
      obtain ⟨hH, hR⟩ := HG
      have H3 := Lib.hid hH; clear hH
      have RH3 := Lib.hid hR; clear hR
      try clear x0 x1 x2 x3 x4 x5 x6 x7 x8 x9
      obtain ⟨x0, x1, x2, x3, x4, x5, x6, x7, x8, x9, _⟩ := H3.out.1
      go_wp2_with fail
      exact ⟨⟨m + 1, by omega, by go_num, by rw [HUM.out]; exact RH3.out, H3.out.only (fun ⟨a, b, c, d, _⟩ => ⟨a, b, c, d, trivial⟩) (fun ⟨a, b, c, d, _⟩ => ⟨a, b, c, d, trivial⟩)⟩, by simp [intOf]; omega⟩
    · obtain rfl : m = xs.length := by omega
      go_wp2_with fail
      go_ret
      exact ⟨_, rfl, HO.out.1.mono HB1.out.size, HB1.out.trans (H1.out.below.mono HB1.out.size)⟩
end Go.Proofs.YtnonebfdognlmabGreat
