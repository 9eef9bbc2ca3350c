/-
  Panes, of the program: border, areDifferent, paneTest.
-/
import Derived.Test.YtnonebfdognlmabGreatGlsG
import Derived.Test.YtnonebfdognlmabGreatG3
namespace Go.Proofs.YtnonebfdognlmabGreat
open Go.RowKit
set_option linter.unusedVariables false
set_option linter.unusedSimpArgs false

/-- The nodes at which the darts begin. -/
def bordL (ls : List Nd) (r : List Int) (n : Nat) : List Int := (r.take n).map fun d => dF ls d.toNat
theorem bordL_succ {ls : List Nd} {r : List Int} {n q : Nat} (h : n < r.length) (hq : atZ r n = (q : Int)) : bordL ls r (n + 1) = bordL ls r n ++ [dF ls q] := by
  unfold bordL
  rw [List.take_succ_eq_append_getElem h, atZ_get h, hq]
  simp
theorem bordL_len (ls : List Nd) (r : List Int) (n : Nat) : (bordL ls r n).length ≤ n := by unfold bordL; rw [List.length_map, List.length_take]; omega
def bord (ls : List Nd) (r : List Int) : List Int := bordL ls r r.length
theorem bord_len (ls : List Nd) (r : List Int) : (bord ls r).length = r.length := by unfold bord bordL; simp
noncomputable def paneW (ns ls : List Nd) (f : Int) : List Int := if idxB (wF ns ls).length f = true then bord ls (atR (wF ns ls) f.toNat) else []
theorem paneW_len (ns ls : List Nd) (f : Int) : (paneW ns ls f).length ≤ 40 := by
  unfold paneW
  by_cases h : idxB (wF ns ls).length f = true
  · rw [if_pos h, bord_len]
    obtain ⟨k, rfl, hk⟩ := idx_nat h
    exact (row_len hk).1
  · rw [if_neg h]; simp

set_option maxRecDepth 100000 in
set_option maxHeartbeats 2000000 in
theorem implBorder (v1 v2 v3 v4 : Value) (rs : List (List Int)) (ds : List Int) (ns ls : List Nd) (B B2 k : Nat) (w : World) (hn : Prs w v1 ns) (hl : Prs w v2 ls) (hf : Faces w B v3 rs) (ha : Ints w B2 v4 ds) (hok : RowsOk ns ls rs) (hk : k < rs.length) (h20 : ls.length ≤ 20) :
    Calls Tryz.prog 56 #[.agg #[v1, v2, v3, v4], .int .i64 k] w (IntsNew (bord ls (atR rs k)) w) := by
  have HG := Lib.hid (heldG w v1 v2 v3 v4 66)
  obtain ⟨a, c3, rfl, hmax, hro⟩ := hf.open_
  obtain ⟨g3, rfl, hg3, hrw⟩ := hro k hk
  obtain ⟨A5, c5, k0, hsq⟩ := hrw w (Below.refl _ _)
  obtain ⟨hw, hd, h4⟩ := hok.2 k hk
  have h40 := hok.1
  have HD := Lib.hid hd
  have HL := Lib.hid hl
  have HX := Lib.hid hsq
  obtain ⟨A, c, rfl⟩ := prs_form2 hn
  obtain ⟨A2, c2, rfl⟩ := prs_form2 hl
  obtain ⟨A4, c4, rfl⟩ := ints_form ha
  have HE := Lib.hid (fun (q : Nat) w h1 (h : q < 2 * ls.length) => dEnds ls (.slice A ns.length c) (.slice A2 ls.length c2) q w h1 h h20)
  unfold TwoIs at HE
  have H0 := Lib.hid (show Held w (w.alloc _) [(w.heap.size, 0, .slice A ns.length c), (w.heap.size, 1, .slice A2 ls.length c2), (w.heap.size, 2, .slice (some ⟨g3, 0, none⟩) rs.length c3), (w.heap.size, 3, .slice A4 ds.length c4), (g3, k, .slice A5 (atR rs k).length c5)] from
    ⟨⟨HG.out.1.1, HG.out.1.2.1, HG.out.1.2.2.1, HG.out.1.2.2.2.1, by rw [HG.out.below.cell (p := ⟨g3, k, none⟩) hg3]; exact k0, trivial⟩, ⟨HG.out.2.1.1, HG.out.2.1.1, HG.out.2.1.1, HG.out.2.1.1, Nat.lt_of_lt_of_le hg3 HG.out.below.size, trivial⟩, HG.out.below⟩)
  have HU := Lib.hid (fun n q (h : n < (atR rs k).length) (hq : atZ (atR rs k) n = (q : Nat)) => bordL_succ (ls := ls) h hq)
  have HLN := Lib.hid (bordL_len ls (atR rs k))
  have HZ := Lib.hid (show bordL ls (atR rs k) 0 = [] from rfl)
  obtain ⟨i0, hi, hz0, hz1, hz2⟩ := info_parts infoInt
  have HI := Lib.hid (And.intro hi (And.intro hz0 (And.intro hz1 hz2))); clear hi hz0 hz1 hz2
  clear HG hro hrw k0 hsq hw hd hok hf ha hn hl
  unfold bord
  have q1 : (0 : Int) ≤ k := by omega
  have q2 : (k : Int) < (rs.length : Int) := by omega
  generalize bordL ls (atR rs k) = X at *
  generalize atR rs k = r at *
  obtain ⟨x0, x1, x2, x3, x4, _⟩ := H0.out.1
  go_enter Tryz.func56, Tryz.ntmps56
  go_wp2_with fail
  have H1 := Lib.hid (H0.out.alloc (.cells #[] 3))
  have HO1 := Lib.hid (Ints.made (w.alloc (.cells #[.slice A ns.length c, .slice A2 ls.length c2, .slice (some ⟨g3, 0, none⟩) rs.length c3, .slice A4 ds.length c4] 66)) (w.heap.size + 1) (w.heap.size + 1) (by simp) (Nat.le_refl _))
  clear x0 x1 x2 x3 x4 H0
  go_loopw [5, 17] (fun v i wr => ∃ m : Nat, m ≤ r.length ∧ i = .int .i64 m ∧ Ints wr (w.heap.size + 1) v (X m) ∧ Held w wr [(w.heap.size, 0, .slice A ns.length c), (w.heap.size, 1, .slice A2 ls.length c2), (w.heap.size, 2, .slice (some ⟨g3, 0, none⟩) rs.length c3), (w.heap.size, 3, .slice A4 ds.length c4)]) (fun _ i _ => r.length - (intOf i).toNat)
  case atStart => exact ⟨0, Nat.zero_le _, rfl, by rw [HZ.out]; exact HO1.out, H1.out.only (fun ⟨a, b, c, d, _⟩ => ⟨a, b, c, d, trivial⟩) (fun ⟨a, b, c, d, _⟩ => ⟨a, b, c, d, trivial⟩)⟩
  case round =>
    clear H1 HO1
    obtain ⟨m, hm, rfl, hown, hh⟩ := hrel
    have HO := Lib.hid hown; clear hown
    have H1 := Lib.hid hh; clear hh
    obtain ⟨x0, x1, x2, x3, _⟩ := H1.out.1
    by_cases hlt : m < r.length
    · have p1 : (0 : Int) ≤ m := by omega
      have p2 : (m : Int) < (r.length : Int) := by omega
      obtain ⟨q, hq, hqN⟩ := HD.out m hlt
      have HUM := Lib.hid (HU.out m q hlt hq)
      have hln := HLN.out m
      obtain ⟨A6, c6, e6, -, -, hcs⟩ := (HX.out.step H1.out.below).form
      simp only [Value.slice.injEq] at e6
      obtain ⟨rfl, -, -⟩ := e6
      obtain ⟨bb, oo, rfl, hbl, hc⟩ := hcs m hlt
      rw [hq] at hc
      have HEQ := Lib.hid (fun w h1 => HE.out q w h1 hqN)
      clear hq hcs
      generalize dF ls q = nf at *
      generalize dT ls q = nt at *
      go_wp2_with fail
      refine (HEQ.out _ (HL.out.step H1.out.below)).mono ?_
      rintro e w2 ⟨rfl, hb⟩
      have H2 := Lib.hid (H1.out.step hb)
      have HO2 := Lib.hid (HO.out.step hb)
      clear hb H1 HO x0 x1 x2 x3 hc
      obtain ⟨hi, hz0, hz1, hz2⟩ := HI.out
      have hsz1 := H2.out.2.1.1
      go_wp2_with (at_builtin; refine wpList_append_own _ rfl _ _ 27 rfl (w.heap.size + 1) 3 i0 (.int .i64 0) 1 8 Tryz.underlying27 hi hz0 hz1 hz2 rfl (by decide) _ _ _ rfl (World.ownsRow.alloc HO2.out _) ⟨_, 0, none⟩ 1 1 [.int .i64 nf] rfl rfl ?c1 ?c2 ?c3 ?c4 ?c5 ?_)
      case c1 => exact cell_one_new _ _ _
      case c2 => simp [Value.oneCell']
      case c3 => unfold maxLen; omega
      case c4 => omega
      case c5 => simp <;> omega
      intro v' w5 hown hgrow _
      have H5 := Lib.hid (H2.out.stepB (B := w.heap.size + 1) ⟨Nat.lt_succ_self _, Nat.lt_succ_self _, Nat.lt_succ_self _, Nat.lt_succ_self _, trivial⟩ (grown_below HO2.out hsz1 hgrow) (Nat.le_succ _))
      have HO5 := Lib.hid (Ints.more hown); clear hown hgrow
      go_wp2_with fail
      exact ⟨⟨m + 1, by omega, by go_num, by rw [HUM.out]; exact HO5.out, H5.out⟩, by simp [intOf]; omega⟩
    · obtain rfl : m = r.length := by omega
      go_wp2_with fail
      go_ret
      exact ⟨_, rfl, HO.out.mono (Nat.le_succ _), H1.out.below⟩

/-- Are they pairwise different? -/
def diffB (xs : List Int) : Bool := decide xs.Nodup
theorem diff_take {xs : List Int} {m : Nat} (h : m < xs.length) : (xs.take (m + 1)).Nodup ↔ (xs.take m).Nodup ∧ ¬ (xs.take m).contains (atZ xs m) = true := by
  rw [List.take_succ_eq_append_getElem h, atZ_get h, List.nodup_append]
  simp only [List.nodup_cons, List.not_mem_nil, not_false_iff, List.nodup_nil, and_true, true_and, List.mem_singleton, List.contains_iff_mem]
  constructor
  · rintro ⟨h1, h2⟩
    exact ⟨h1, fun hm => h2 _ hm _ rfl rfl⟩
  · rintro ⟨h1, h2⟩
    exact ⟨h1, fun a ha b hb e => h2 (by rw [← hb, ← e]; exact ha)⟩
theorem diff_no {xs : List Int} {m : Nat} (h : ¬ (xs.take m).Nodup) : diffB xs = false := decide_eq_false fun hn => h (hn.sublist (List.take_sublist _ _))
set_option maxRecDepth 100000 in
theorem implDiff (xs : List Int) (B : Nat) (v : Value) (w : World) (hv : Ints w B v xs) (hlen : xs.length ≤ 1000) : Calls Tryz.prog 91 #[v] w (BoolIs (diffB xs) w) := by
  by_cases h0 : 0 < xs.length
  · obtain ⟨g, c, rfl⟩ := hv.some_ h0
    have HC := Lib.hid (fun n (hn : n ≤ xs.length) x => Any.slices_Contains_int Tryz.lays107 g 0 n c xs x w hn (by omega) (fun j hj => by
      rw [Nat.zero_add, (hv.at_ (by omega)).1]; rfl))
    obtain ⟨hcl, hcm⟩ : xs.length ≤ c ∧ c ≤ maxLen := by
      obtain ⟨A9, c9, e9, l1, l2, -⟩ := hv.seq.form
      simp only [Value.slice.injEq] at e9
      obtain ⟨-, -, rfl⟩ := e9
      exact ⟨l1, l2⟩
    have HV := Lib.hid hv; clear hv
    have HR := Lib.hid (show (xs.take xs.length).Nodup → diffB xs = true from fun h => decide_eq_true (by rw [List.take_length] at h; exact h))
    have HNO := Lib.hid (fun m => diff_no (xs := xs) (m := m))
    have HTK := Lib.hid (fun m (h : m < xs.length) => diff_take h)
    generalize diffB xs = res at *
    go_enter Tryz.func91, Tryz.ntmps91
    go_wp2_with fail
    go_loopw [7] (fun i wr => ∃ m : Nat, m ≤ xs.length ∧ i = .int .i64 m ∧ (xs.take m).Nodup ∧ wr = w) (fun i _ => xs.length - (intOf i).toNat)
    case atStart => exact ⟨0, Nat.zero_le _, rfl, by simp, rfl⟩
    case round =>
      obtain ⟨m, hm, rfl, ha, rfl⟩ := hrel
      have HA := Lib.hid ha; clear ha
      by_cases hlt : m < xs.length
      · obtain ⟨k0, -, -, -, -⟩ := HV.out.at_ hlt
        have HCM := Lib.hid (HC.out m (by omega) (atZ xs m))
        have HT := Lib.hid (HTK.out m hlt)
        have HNM := Lib.hid (HNO.out (m + 1))
        have p1 : (0 : Int) ≤ m := by omega
        have p2 : (m : Int) < (xs.length : Int) := by omega
        have p3 : m ≤ c := by omega
        have p4 : (m : Int) ≤ (c : Int) := by omega
        have p5 : c ≠ 0 := by omega
        obtain ⟨b, hb⟩ : ∃ b, (xs.take m).contains (atZ xs m) = b := ⟨_, rfl⟩
        rw [hb] at HCM HT
        clear hb
        generalize atZ xs m = z at *
        go_wp2_with fail
        refine HCM.out.mono ?_
        rintro e w' ⟨rfl, rfl⟩
        cases b
        · go_wp2_with fail
          exact ⟨⟨m + 1, by omega, by go_num, HT.out.2 ⟨HA.out, by simp⟩, trivial⟩, by simp [intOf]; omega⟩
        · go_wp2_with fail
          go_ret
          exact ⟨ret_bool (HNM.out (by rw [HT.out]; simp)).symm, Below.refl _ _⟩
      · obtain rfl : m = xs.length := by omega
        go_wp2_with fail
        go_ret
        exact ⟨ret_bool (HR.out HA.out).symm, Below.refl _ _⟩
  · have hx : xs = [] := List.eq_nil_of_length_eq_zero (by omega)
    subst hx
    obtain ⟨a, c, rfl⟩ := ints_form hv
    go_enter Tryz.func91, Tryz.ntmps91
    go_wp2_with fail
    refine wp_loop_rounds 1 ?_
    rw [rounds_succ]
    go_wp2_with fail
    go_ret
    exact ⟨rfl, Below.refl _ _⟩
end Go.Proofs.YtnonebfdognlmabGreat
