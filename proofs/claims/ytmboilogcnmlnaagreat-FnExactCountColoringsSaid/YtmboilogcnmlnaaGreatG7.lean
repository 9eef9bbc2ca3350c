/-
  Several texts in one: a claim has at most 60 files.
-/
import Derived.Test.YtmboilogcnmlnaaGreatGlsG
import Derived.Test.YtmboilogcnmlnaaGreatG3
import Derived.Test.YtmboilogcnmlnaaGreatGlsV

namespace Go.Proofs.YtmboilogcnmlnaaGreat
open Go.RowKit
set_option linter.unusedVariables false
set_option linter.unusedSimpArgs false

/-- The nodes at which the darts begin. -/
def bordL (ls : List Nd) (r : List Int) (n : Nat) : List Int := (r.take n).map fun d => dF ls d.toNat

theorem bordL_succ {ls : List Nd} {r : List Int} {n q : Nat} (h : n < r.length) (hq : atZ r n = (q : Int)) : bordL ls r (n + 1) = bordL ls r n ++ [dF ls q] := by
  unfold bordL
  rw [List.take_succ_eq_append_getElem h, atZ_get h, hq]
  simp

theorem bordL_len (ls : List Nd) (r : List Int) (n : Nat) : (bordL ls r n).length ≤ n := by unfold bordL; rw [List.length_map, List.length_take]; omega

def bord (ls : List Nd) (r : List Int) : List Int := bordL ls r r.length

theorem bord_len (ls : List Nd) (r : List Int) : (bord ls r).length = r.length := by unfold bord bordL; simp

noncomputable def paneW (ns ls : List Nd) (f : Int) : List Int := if idxB (wF ns ls).length f = true then bord ls (atR (wF ns ls) f.toNat) else []

theorem paneW_len (ns ls : List Nd) (f : Int) : (paneW ns ls f).length ≤ 40 := by
  unfold paneW
  by_cases h : idxB (wF ns ls).length f = true
  · rw [if_pos h, bord_len]
    obtain ⟨k, rfl, hk⟩ := idx_nat h
    exact (row_len hk).1
  · rw [if_neg h]; simp

set_option maxRecDepth 100000 in
set_option maxHeartbeats 2000000 in
theorem implBorder (v1 v2 v3 v4 : Value) (rs : List (List Int)) (ds : List Int) (ns ls : List Nd) (B B2 k : Nat) (w : World) (hn : Prs w v1 ns) (hl : Prs w v2 ls) (hf : Faces w B v3 rs) (ha : Ints w B2 v4 ds) (hok : RowsOk ns ls rs) (hk : k < rs.length) (h20 : ls.length ≤ 20) :
    Calls Tryz.prog 91 #[.agg #[v1, v2, v3, v4], .int .i64 k] w (IntsNew (bord ls (atR rs k)) w) := by
  have HG := Lib.hid (heldG w v1 v2 v3 v4 66)
  obtain ⟨a, c3, rfl, hmax, hro⟩ := hf.open_
  obtain ⟨g3, rfl, hg3, hrw⟩ := hro k hk
  obtain ⟨A5, c5, k0, hsq⟩ := hrw w (Below.refl _ _)
  obtain ⟨hw, hd, h4⟩ := hok.2 k hk
  have h40 := hok.1
  have HD := Lib.hid hd
  have HL := Lib.hid hl
  have HX := Lib.hid hsq
  obtain ⟨A, c, rfl⟩ := prs_form2 hn
  obtain ⟨A2, c2, rfl⟩ := prs_form2 hl
  obtain ⟨A4, c4, rfl⟩ := ints_form ha
  have HE := Lib.hid (fun (q : Nat) w h1 (h : q < 2 * ls.length) => dEnds ls (.slice A ns.length c) (.slice A2 ls.length c2) q w h1 h h20)
  unfold TwoIs at HE
  have H0 := Lib.hid (show Held w (w.alloc _) [(w.heap.size, 0, .slice A ns.length c), (w.heap.size, 1, .slice A2 ls.length c2), (w.heap.size, 2, .slice (some ⟨g3, 0, none⟩) rs.length c3), (w.heap.size, 3, .slice A4 ds.length c4), (g3, k, .slice A5 (atR rs k).length c5)] from
    ⟨⟨HG.out.1.1, HG.out.1.2.1, HG.out.1.2.2.1, HG.out.1.2.2.2.1, by rw [HG.out.below.cell (p := ⟨g3, k, none⟩) hg3]; exact k0, trivial⟩, ⟨HG.out.2.1.1, HG.out.2.1.1, HG.out.2.1.1, HG.out.2.1.1, Nat.lt_of_lt_of_le hg3 HG.out.below.size, trivial⟩, HG.out.below⟩)
  have HU := Lib.hid (fun n q (h : n < (atR rs k).length) (hq : atZ (atR rs k) n = (q : Nat)) => bordL_succ (ls := ls) h hq)
  have HLN := Lib.hid (bordL_len ls (atR rs k))
  have HZ := Lib.hid (show bordL ls (atR rs k) 0 = [] from rfl)
  obtain ⟨i0, hi, hz0, hz1, hz2⟩ := info_parts infoInt
  have HI := Lib.hid (And.intro hi (And.intro hz0 (And.intro hz1 hz2))); clear hi hz0 hz1 hz2
  clear HG hro hrw k0 hsq hw hd hok hf ha hn hl
  unfold bord
  have q1 : (0 : Int) ≤ k := by omega
  have q2 : (k : Int) < (rs.length : Int) := by omega
  generalize bordL ls (atR rs k) = X at *
  generalize atR rs k = r at *
  obtain ⟨x0, x1, x2, x3, x4, _⟩ := H0.out.1
  go_enter Tryz.func91, Tryz.ntmps91
  go_wp2_with fail
  have H1 := Lib.hid (H0.out.alloc (.cells #[] 3))
  have HO1 := Lib.hid (Ints.made (w.alloc (.cells #[.slice A ns.length c, .slice A2 ls.length c2, .slice (some ⟨g3, 0, none⟩) rs.length c3, .slice A4 ds.length c4] 66)) (w.heap.size + 1) (w.heap.size + 1) (by simp) (Nat.le_refl _))
  clear x0 x1 x2 x3 x4 H0
  go_loopw [5, 17] (fun v i wr => ∃ m : Nat, m ≤ r.length ∧ i = .int .i64 m ∧ Ints wr (w.heap.size + 1) v (X m) ∧ Held w wr [(w.heap.size, 0, .slice A ns.length c), (w.heap.size, 1, .slice A2 ls.length c2), (w.heap.size, 2, .slice (some ⟨g3, 0, none⟩) rs.length c3), (w.heap.size, 3, .slice A4 ds.length c4)]) (fun _ i _ => r.length - (intOf i).toNat)
  case atStart => exact ⟨0, Nat.zero_le _, rfl, by rw [HZ.out]; exact HO1.out, H1.out.only (fun ⟨a, b, c, d, _⟩ => ⟨a, b, c, d, trivial⟩) (fun ⟨a, b, c, d, _⟩ => ⟨a, b, c, d, trivial⟩)⟩
  case round =>
    clear H1 HO1
    obtain ⟨m, hm, rfl, hown, hh⟩ := hrel
    have HO := Lib.hid hown; clear hown
    have H1 := Lib.hid hh; clear hh
    obtain ⟨x0, x1, x2, x3, _⟩ := H1.out.1
    by_cases hlt : m < r.length
    · have p1 : (0 : Int) ≤ m := by omega
      have p2 : (m : Int) < (r.length : Int) := by omega
      obtain ⟨q, hq, hqN⟩ := HD.out m hlt
      have HUM := Lib.hid (HU.out m q hlt hq)
      have hln := HLN.out m
      obtain ⟨A6, c6, e6, -, -, hcs⟩ := (HX.out.step H1.out.below).form
      simp only [Value.slice.injEq] at e6
      obtain ⟨rfl, -, -⟩ := e6
      obtain ⟨bb, oo, rfl, hbl, hc⟩ := hcs m hlt
      rw [hq] at hc
      have HEQ := Lib.hid (fun w h1 => HE.out q w h1 hqN)
      clear hq hcs
      generalize dF ls q = nf at *
      generalize dT ls q = nt at *
      go_wp2_with fail
      refine (HEQ.out _ (HL.out.step H1.out.below)).mono ?_
      rintro e w2 ⟨rfl, hb⟩
      have H2 := Lib.hid (H1.out.step hb)
      have HO2 := Lib.hid (HO.out.step hb)
      clear hb H1 HO x0 x1 x2 x3 hc
      obtain ⟨hi, hz0, hz1, hz2⟩ := HI.out
      have hsz1 := H2.out.2.1.1
      go_wp2_with (at_builtin; refine wpList_append_own _ rfl _ _ 43 rfl (w.heap.size + 1) 3 i0 (.int .i64 0) 1 8 Tryz.underlying43 hi hz0 hz1 hz2 rfl (by decide) _ _ _ rfl (World.ownsRow.alloc HO2.out _) ⟨_, 0, none⟩ 1 1 [.int .i64 nf] rfl rfl ?c1 ?c2 ?c3 ?c4 ?c5 ?_)
      case c1 => exact cell_one_new _ _ _
      case c2 => simp [Value.oneCell']
      case c3 => unfold maxLen; omega
      case c4 => omega
      case c5 => simp <;> omega
      intro v' w5 hown hgrow _
      have H5 := Lib.hid (H2.out.stepB (B := w.heap.size + 1) ⟨Nat.lt_succ_self _, Nat.lt_succ_self _, Nat.lt_succ_self _, Nat.lt_succ_self _, trivial⟩ (grown_below HO2.out hsz1 hgrow) (Nat.le_succ _))
      have HO5 := Lib.hid (Ints.more hown); clear hown hgrow
      go_wp2_with fail
      exact ⟨⟨m + 1, by omega, by go_num, by rw [HUM.out]; exact HO5.out, H5.out⟩, by simp [intOf]; omega⟩
    · obtain rfl : m = r.length := by omega
      go_wp2_with fail
      go_ret
      exact ⟨_, rfl, HO.out.mono (Nat.le_succ _), H1.out.below⟩

/-- Are they pairwise different? -/
def diffB (xs : List Int) : Bool := decide xs.Nodup

theorem diff_take {xs : List Int} {m : Nat} (h : m < xs.length) : (xs.take (m + 1)).Nodup ↔ (xs.take m).Nodup ∧ ¬ (xs.take m).contains (atZ xs m) = true := by
  rw [List.take_succ_eq_append_getElem h, atZ_get h, List.nodup_append]
  simp only [List.nodup_cons, List.not_mem_nil, not_false_iff, List.nodup_nil, and_true, true_and, List.mem_singleton, List.contains_iff_mem]
  constructor
  · rintro ⟨h1, h2⟩
    exact ⟨h1, fun hm => h2 _ hm _ rfl rfl⟩
  · rintro ⟨h1, h2⟩
    exact ⟨h1, fun a ha b hb e => h2 (by rw [← hb, ← e]; exact ha)⟩

theorem diff_no {xs : List Int} {m : Nat} (h : ¬ (xs.take m).Nodup) : diffB xs = false := decide_eq_false fun hn => h (hn.sublist (List.take_sublist _ _))

set_option maxRecDepth 100000 in
theorem implDiff (xs : List Int) (B : Nat) (v : Value) (w : World) (hv : Ints w B v xs) (hlen : xs.length ≤ 1000) : Calls Tryz.prog 90 #[v] w (BoolIs (diffB xs) w) := by
  by_cases h0 : 0 < xs.length
  · obtain ⟨g, c, rfl⟩ := hv.some_ h0
    have HC := Lib.hid (fun n (hn : n ≤ xs.length) x => Any.slices_Contains_int Tryz.lays107 g 0 n c xs x w hn (by omega) (fun j hj => by
      rw [Nat.zero_add, (hv.at_ (by omega)).1]; rfl))
    obtain ⟨hcl, hcm⟩ : xs.length ≤ c ∧ c ≤ maxLen := by
      obtain ⟨A9, c9, e9, l1, l2, -⟩ := hv.seq.form
      simp only [Value.slice.injEq] at e9
      obtain ⟨-, -, rfl⟩ := e9
      exact ⟨l1, l2⟩
    have HV := Lib.hid hv; clear hv
    have HR := Lib.hid (show (xs.take xs.length).Nodup → diffB xs = true from fun h => decide_eq_true (by rw [List.take_length] at h; exact h))
    have HNO := Lib.hid (fun m => diff_no (xs := xs) (m := m))
    have HTK := Lib.hid (fun m (h : m < xs.length) => diff_take h)
    generalize diffB xs = res at *
    go_enter Tryz.func90, Tryz.ntmps90
    go_wp2_with fail
    go_loopw [7] (fun i wr => ∃ m : Nat, m ≤ xs.length ∧ i = .int .i64 m ∧ (xs.take m).Nodup ∧ wr = w) (fun i _ => xs.length - (intOf i).toNat)
    case atStart => exact ⟨0, Nat.zero_le _, rfl, by simp, rfl⟩
    case round =>
      obtain ⟨m, hm, rfl, ha, rfl⟩ := hrel
      have HA := Lib.hid ha; clear ha
      by_cases hlt : m < xs.length
      · obtain ⟨k0, -, -, -, -⟩ := HV.out.at_ hlt
        have HCM := Lib.hid (HC.out m (by omega) (atZ xs m))
        have HT := Lib.hid (HTK.out m hlt)
        have HNM := Lib.hid (HNO.out (m + 1))
        have p1 : (0 : Int) ≤ m := by omega
        have p2 : (m : Int) < (xs.length : Int) := by omega
        have p3 : m ≤ c := by omega
        have p4 : (m : Int) ≤ (c : Int) := by omega
        have p5 : c ≠ 0 := by omega
        obtain ⟨b, hb⟩ : ∃ b, (xs.take m).contains (atZ xs m) = b := ⟨_, rfl⟩
        rw [hb] at HCM HT
        clear hb
        generalize atZ xs m = z at *
        go_wp2_with fail
        refine HCM.out.mono ?_
        rintro e w' ⟨rfl, rfl⟩
        cases b
        · go_wp2_with fail
          exact ⟨⟨m + 1, by omega, by go_num, HT.out.2 ⟨HA.out, by simp⟩, trivial⟩, by simp [intOf]; omega⟩
        · go_wp2_with fail
          go_ret
          exact ⟨ret_bool (HNM.out (by rw [HT.out]; simp)).symm, Below.refl _ _⟩
      · obtain rfl : m = xs.length := by omega
        go_wp2_with fail
        go_ret
        exact ⟨ret_bool (HR.out HA.out).symm, Below.refl _ _⟩
  · have hx : xs = [] := List.eq_nil_of_length_eq_zero (by omega)
    subst hx
    obtain ⟨a, c, rfl⟩ := ints_form hv
    go_enter Tryz.func90, Tryz.ntmps90
    go_wp2_with fail
    refine wp_loop_rounds 1 ?_
    rw [rounds_succ]
    go_wp2_with fail
    go_ret
    exact ⟨rfl, Below.refl _ _⟩
end Go.Proofs.YtmboilogcnmlnaaGreat

namespace Go.Proofs.YtmboilogcnmlnaaGreat
open Go.RowKit
set_option linter.unusedVariables false
set_option linter.unusedSimpArgs false

/-- Is f a pane, where o is the wall around? -/
def testB (ls : List Nd) (rs : List (List Int)) (o f : Int) : Bool := idxB rs.length f && (decide (f ≠ o) && diffB (bord ls (atR rs f.toNat)))

/-- The cells of the test: the wall around, the glass. -/
def tstFs (b1 b2 : Nat) (o : Int) (v1 v2 v3 v4 : Value) : List (Nat × Nat × Value) := [(b2, 0, .int .i64 o), (b1, 0, v1), (b1, 1, v2), (b1, 2, v3), (b1, 3, v4)]

/-- What paneTest returns. -/
def TestNew (v1 v2 v3 v4 : Value) (o : Int) (w : World) (e : Ending) (w' : World) : Prop :=
  ∃ b1 b2 : Nat, e = .returned (.func (.func 89) #[] #[.pointer (some ⟨b1, 0, none⟩), .pointer (some ⟨b2, 0, none⟩)]) ∧ Held w w' (tstFs b1 b2 o v1 v2 v3 v4)

set_option maxRecDepth 100000 in
theorem implTest (ns ls : List Nd) (v1 v2 v3 v4 : Value) (rs : List (List Int)) (ds : List Int) (B : Nat) (w : World) (hn : Prs w v1 ns) (hl : Prs w v2 ls) (hf : Faces w B v3 rs) (ha : Ints w B v4 ds) (hok : RowsOk ns ls rs) :
    Calls Tryz.prog 53 #[.agg #[v1, v2, v3, v4]] w (TestNew v1 v2 v3 v4 (firstI (outP ns ls rs) rs.length) w) := by
  have HO := Lib.hid (fun W hb => implOuter ns ls v1 v2 v3 v4 rs ds B W (hn.step hb) (hl.step hb) (hf.step hb) (ha.step hb) hok)
  unfold IntIs at HO
  obtain ⟨A, c, rfl⟩ := prs_form2 hn
  obtain ⟨A2, c2, rfl⟩ := prs_form2 hl
  obtain ⟨A3, c3, rfl⟩ := faces_form hf
  obtain ⟨A4, c4, rfl⟩ := ints_form ha
  have H0 := Lib.hid (heldG w (.slice A ns.length c) (.slice A2 ls.length c2) (.slice A3 rs.length c3) (.slice A4 ds.length c4) 66)
  clear hn hl hf ha hok
  generalize firstI (outP ns ls rs) rs.length = o at *
  obtain ⟨x0, x1, x2, x3, _⟩ := H0.out.1
  go_enter Tryz.func53, Tryz.ntmps53
  go_wp2_with fail
  refine (HO.out _ H0.out.below).mono ?_
  rintro e w1 ⟨rfl, hb⟩
  have H1 := Lib.hid (H0.out.step hb); clear hb x0 x1 x2 x3
  go_wp2_with fail
  go_ret
  exact ⟨_, _, rfl, H1.out.new2 w1.heap.size rfl [.int .i64 o] 3⟩

set_option maxRecDepth 100000 in
set_option maxHeartbeats 1000000 in
theorem implTest1 (ns ls : List Nd) (v1 v2 v3 v4 : Value) (rs : List (List Int)) (ds : List Int) (B B2 b1 b2 : Nat) (o f : Int) (w0 w : World) (hn : Prs w v1 ns) (hl : Prs w v2 ls) (hf : Faces w B v3 rs) (ha : Ints w B2 v4 ds) (hok : RowsOk ns ls rs) (h20 : ls.length ≤ 20) (hh : Held w0 w (tstFs b1 b2 o v1 v2 v3 v4)) :
    Calls Tryz.prog 89 #[.int .i64 f, .pointer (some ⟨b1, 0, none⟩), .pointer (some ⟨b2, 0, none⟩)] w (BoolIs (testB ls rs o f) w) := by
  have H0 := Lib.hid (Held.start hh.1 hh.2.1); clear hh
  unfold tstFs at H0
  have HH := Lib.hid (fun (A1 A2 A3 A4 : Option Addr) (n1 c1 n2 c2 c3 n4 c4 : Nat) w => implHasFace A1 A2 A3 A4 n1 c1 n2 c2 rs.length c3 n4 c4 f w (by have := hok.1; omega))
  unfold BoolIs at HH
  have h40 := hok.1
  by_cases hi : idxB rs.length f = true
  · obtain ⟨k, rfl, hk⟩ := idx_nat hi
    have HB := Lib.hid (fun W hb => implBorder v1 v2 v3 v4 rs ds ns ls B B2 k W (hn.step hb) (hl.step hb) (hf.step hb) (ha.step hb) hok hk h20)
    unfold IntsNew at HB
    have hln : (bord ls (atR rs k)).length ≤ 1000 := by rw [bord_len]; have := (hok.2 k hk).2.2; omega
    have HR := Lib.hid (show testB ls rs o k = (decide ((k : Int) ≠ o) && diffB (bord ls (atR rs k))) from by unfold testB; rw [hi]; rfl)
    rw [hi] at HH
    obtain ⟨A, c, rfl⟩ := prs_form2 hn
    obtain ⟨A2, c2, rfl⟩ := prs_form2 hl
    obtain ⟨A3, c3, rfl⟩ := faces_form hf
    obtain ⟨A4, c4, rfl⟩ := ints_form ha
    clear hn hl hf ha hok hi hk
    generalize testB ls rs o k = res at *
    generalize bord ls (atR rs k) = xs at *
    generalize hz : (k : Int) = z at *
    clear hz
    obtain ⟨x0, x1, x2, x3, x4, _⟩ := H0.out.1
    by_cases ho : z = o
    · have g : (z != o) = false := by simp [ho]
      have HX := Lib.hid (show res = false from by rw [HR.out]; simp [ho])
      clear ho
      go_enter Tryz.func89, Tryz.ntmps89
      go_wp2_with fail
      refine (HH.out _ _ _ _ _ _ _ _ _ _ _ _).mono ?_
      rintro e w1 ⟨rfl, hb⟩
      have H1 := Lib.hid (H0.out.step hb); clear hb x0 x1 x2 x3 x4
      obtain ⟨x0, x1, x2, x3, x4, _⟩ := H1.out.1
      go_wp2_with fail
      go_ret
      exact ⟨ret_bool HX.out.symm, H1.out.below⟩
    · have g : (z != o) = true := by simp [ho]
      have HX := Lib.hid (show diffB xs = res from by rw [HR.out]; simp [ho])
      clear ho
      go_enter Tryz.func89, Tryz.ntmps89
      go_wp2_with fail
      refine (HH.out _ _ _ _ _ _ _ _ _ _ _ _).mono ?_
      rintro e w1 ⟨rfl, hb⟩
      have H1 := Lib.hid (H0.out.step hb); clear hb x0 x1 x2 x3 x4
      obtain ⟨x0, x1, x2, x3, x4, _⟩ := H1.out.1
      go_wp2_with fail
      refine (HB.out _ H1.out.below).mono ?_
      rintro e w2 ⟨v, rfl, hv, hb⟩
      have H2 := Lib.hid (H1.out.step hb)
      have HD := Lib.hid (implDiff xs _ v w2 hv hln)
      unfold BoolIs at HD
      rw [HX.out] at HD
      clear hb hv x0 x1 x2 x3 x4
      go_wp2_with fail
      refine HD.out.mono ?_
      rintro e w3 ⟨rfl, hb⟩
      have H3 := Lib.hid (H2.out.step hb); clear hb
      go_wp2_with fail
      go_ret
      exact ⟨ret_bool rfl, H3.out.below⟩
  · have hi2 : idxB rs.length f = false := by simpa using hi
    have HR := Lib.hid (show testB ls rs o f = false from by unfold testB; rw [hi2]; rfl)
    rw [hi2] at HH
    obtain ⟨A, c, rfl⟩ := prs_form2 hn
    obtain ⟨A2, c2, rfl⟩ := prs_form2 hl
    obtain ⟨A3, c3, rfl⟩ := faces_form hf
    obtain ⟨A4, c4, rfl⟩ := ints_form ha
    clear hn hl hf ha hok hi hi2
    generalize testB ls rs o f = res at *
    obtain ⟨x0, x1, x2, x3, x4, _⟩ := H0.out.1
    go_enter Tryz.func89, Tryz.ntmps89
    go_wp2_with fail
    refine (HH.out _ _ _ _ _ _ _ _ _ _ _ _).mono ?_
    rintro e w1 ⟨rfl, hb⟩
    have H1 := Lib.hid (H0.out.step hb); clear hb x0 x1 x2 x3 x4
    obtain ⟨x0, x1, x2, x3, x4, _⟩ := H1.out.1
    go_wp2_with fail
    go_ret
    exact ⟨ret_bool HR.out.symm, H1.out.below⟩

noncomputable def paneB (ns ls : List Nd) (f : Int) : Bool := testB ls (wF ns ls) (outW ns ls) f

noncomputable def panesW (ns ls : List Nd) : List Int := fltN (fun k => paneB ns ls k) (wF ns ls).length

theorem panesW_len (ns ls : List Nd) : (panesW ns ls).length ≤ 40 := by
  have := fltN_len (fun k => paneB ns ls k) (wF ns ls).length
  have := wF_len (ns := ns) (ls := ls)
  unfold panesW
  omega

theorem g_bord {ns ls : List Nd} {k : Nat} (h : k < (wF ns ls).length) (r : List Int) : bord (gL ns ls) r = bord ls r := by
  unfold gL
  rw [if_pos (wF_row h).1]

theorem g_test (ns ls : List Nd) (f : Int) : testB (gL ns ls) (wF ns ls) (outW ns ls) f = paneB ns ls f := by
  unfold paneB testB
  by_cases h : idxB (wF ns ls).length f = true
  · obtain ⟨k, rfl, hk⟩ := idx_nat h
    rw [g_bord hk]
  · rw [show idxB (wF ns ls).length f = false by simpa using h]
    rfl

end Go.Proofs.YtmboilogcnmlnaaGreat

namespace Go.Proofs.YtmboilogcnmlnaaGreat
open Go.RowKit
set_option linter.unusedVariables false
set_option linter.unusedSimpArgs false

set_option maxRecDepth 100000 in
set_option maxHeartbeats 2000000 in
theorem specPaneNodes (ns ls : List Nd) (vn vl : Value) (f : Int) (w : World) (hn : Prs w vn ns) (hl : Prs w vl ls) :
    Calls Tryz.prog 48 #[.agg #[vn, vl], .int .i64 f] w (IntsNew (paneW ns ls f) w) := by
  have HIN := Lib.hid (fun w => specIn f 0 (((wF ns ls).length : Int) - 1) w)
  have HF := Lib.hid (fun w h1 h2 => specFacesL ns ls vn vl w h1 h2)
  unfold FacesNew at HF
  by_cases hf : idxB (wF ns ls).length f = true
  · obtain ⟨k, rfl, hk⟩ := idx_nat hf
    rw [show inB (k : Int) 0 (((wF ns ls).length : Int) - 1) = true by simp [inB]; omega] at HIN
    have HR := Lib.hid (show paneW ns ls k = bordL ls (atR (wF ns ls) k) (atR (wF ns ls) k).length from if_pos hf)
    have h20 := (whole_win (wF_row hk).1).2.2.1
    obtain ⟨hw, hd, h4⟩ := (wF_ok ns ls).2 k hk
    have HE := Lib.hid (fun (A A2 : Option Addr) (c c2 : Nat) (q : Nat) w h1 (h : q < 2 * ls.length) => sEnds ls (.slice A ns.length c) (.slice A2 ls.length c2) q w h1 h h20)
    unfold TwoIs at HE
    have HD := Lib.hid hd
    have HU := Lib.hid (fun n q (h : n < (atR (wF ns ls) k).length) (hq : atZ (atR (wF ns ls) k) n = (q : Nat)) => bordL_succ (ls := ls) h hq)
    have HLN := Lib.hid (bordL_len ls (atR (wF ns ls) k))
    have HZ := Lib.hid (show bordL ls (atR (wF ns ls) k) 0 = [] from rfl)
    clear hf hw hd h20
    have HN := Lib.hid hn
    have HL := Lib.hid hl
    have H0 := Lib.hid (held_pair w vn vl 31)
    obtain ⟨A, c, rfl⟩ := prs_form2 hn
    obtain ⟨A2, c2, rfl⟩ := prs_form2 hl
    clear hn hl
    have h40 := wF_len (ns := ns) (ls := ls)
    have H1 := Lib.hid (H0.out.alloc (.cells #[] 3))
    have HO1 := Lib.hid (Ints.made (w.alloc (.cells #[.slice A ns.length c, .slice A2 ls.length c2] 31)) (w.heap.size + 1) (w.heap.size + 1) (by simp) (Nat.le_refl _))
    clear H0
    obtain ⟨i0, hi, hz0, hz1, hz2⟩ := info_parts infoInt
    have HI := Lib.hid (And.intro hi (And.intro hz0 (And.intro hz1 hz2))); clear hi hz0 hz1 hz2
    generalize bordL ls (atR (wF ns ls) k) = X at *
    generalize paneW ns ls (k : Int) = res at *
    generalize wF ns ls = rs at *
    go_enter Tryz.func48, Tryz.ntmps48
    go_wp2_with fail
    refine (HF.out _ (HN.out.step H1.out.below) (HL.out.step H1.out.below)).mono ?_
    rintro e w1 ⟨vf, rfl, hf, hb⟩
    have hbase : ((w.alloc (.cells #[.slice A ns.length c, .slice A2 ls.length c2] 31)).alloc (.cells #[] 3)).heap.size = w.heap.size + 1 + 1 := by simp
    rw [hbase] at hf
    obtain ⟨a, c3, rfl, hmax, hro⟩ := hf.open2
    have HRO := Lib.hid hro; clear hro
    have H2 := Lib.hid (H1.out.step hb)
    have HO2 := Lib.hid (HO1.out.step hb)
    clear hb hf H1 HO1 hbase
    go_wp2_with fail
    refine (HIN.out _).mono ?_
    rintro e w9 ⟨rfl, rfl⟩
    obtain ⟨g3, rfl, hg3, hrw⟩ := HRO.out k hk
    have HRW := Lib.hid hrw; clear hrw HRO
    have k1 : (0 : Int) ≤ k := by omega
    have k2 : (k : Int) < (rs.length : Int) := by omega
    generalize atR rs k = r at *
    go_wp2_with fail
    go_loopw [5, 7] (fun v i wr => ∃ m : Nat, m ≤ r.length ∧ i = .int .i64 m ∧ Ints wr (w.heap.size + 1) v (X m) ∧ Keeps (w.heap.size + 1 + 1) w1 wr ∧ (∀ k, v.ownBlock = some k → k < w.heap.size + 1 + 1 ∨ w1.heap.size ≤ k) ∧ Held w wr [(w.heap.size, 0, .slice A ns.length c), (w.heap.size, 1, .slice A2 ls.length c2)]) (fun _ i _ => r.length - (intOf i).toNat)
    case atStart => exact ⟨0, Nat.zero_le _, rfl, by rw [HZ.out]; exact HO2.out, Keeps.refl _ _, fun k hk => by simp [Value.ownBlock] at hk; omega, H2.out⟩
    case round =>
      clear H2 HO2
      obtain ⟨m, hm, rfl, hown, hkeep, hwhere, hh⟩ := hrel
      have HO := Lib.hid hown; clear hown
      have HK := Lib.hid hkeep; clear hkeep
      have HW := Lib.hid hwhere; clear hwhere
      have H1 := Lib.hid hh; clear hh
      obtain ⟨A4, c4, k0, hsq⟩ := HRW.out wr HK.out
      have hks := HK.out.1
      by_cases hlt : m < r.length
      · obtain ⟨A6, c6, e6, -, -, hcs⟩ := hsq.form
        simp only [Value.slice.injEq] at e6
        obtain ⟨rfl, -, -⟩ := e6
        obtain ⟨bb, oo, rfl, hbl, hc⟩ := hcs m hlt
        obtain ⟨q, hq, hqN⟩ := HD.out m hlt
        have HUM := Lib.hid (HU.out m q hlt hq)
        have hln := HLN.out m
        rw [hq] at hc
        have H2 := Lib.hid (Held.start (w := wr) (fs := [(w.heap.size, 0, .slice A ns.length c), (w.heap.size, 1, .slice A2 ls.length c2), (g3, k, .slice (some ⟨bb, oo, none⟩) r.length c4), (bb, oo + m, .int .i64 (q : Int))]) ⟨H1.out.1.1, H1.out.1.2.1, k0, hc, trivial⟩ ⟨H1.out.2.1.1, H1.out.2.1.1, Nat.lt_of_lt_of_le hg3 hks, hbl, trivial⟩)
        have HEQ := Lib.hid (fun w h1 => HE.out A A2 c c2 q w h1 hqN)
        have HLr := Lib.hid (HL.out.step H1.out.below)
        clear hq hcs hc k0 hsq hbl
        have p1 : (0 : Int) ≤ m := by omega
        have p2 : (m : Int) < (r.length : Int) := by omega
        generalize dF ls q = nf at *
        generalize dT ls q = nt at *
        obtain ⟨x0, x1, x2, x3, _⟩ := H2.out.1
        go_wp2_with fail
        refine regionD (S := fun W => Held _ W [(w.heap.size, 0, .slice A ns.length c), (w.heap.size, 1, .slice A2 ls.length c2), (g3, k, .slice (some ⟨bb, oo, none⟩) r.length c4), (bb, oo + m, .int .i64 (q))]) (by kernel_rfl) H2.out.drew ?_
        iterate 14 (refine takeT (v := ?_) rfl (by kernel_rfl) (by kernel_rfl) (by kernel_rfl) ?_ ?_; rotate_left; (first | (refine Or.inr ⟨by rfl, ?_⟩; with_reducible rfl) | (refine Or.inl ⟨by rfl, fun W hS => detRes_value (w' := W) ?_ hS⟩; obtain ⟨x0, x1, x2, x3, _⟩ := hS.1; go_simp; first | done | with_reducible rfl) | (refine Or.inl ⟨by rfl, fun W hS => ?_⟩; refine detRes_call (w' := W) (f := ?_) (args := ?_) ?_ ?_; rotate_left 2; (go_simp; (refine ⟨?_, ?_⟩ <;> with_reducible rfl)); (first | (with_reducible refine (HEQ.out _ (HLr.out.step hS.below)).mono ?_) | fail); (first | (rintro e wn ⟨rfl, hb⟩; refine ⟨?_, hS.step hb⟩; with_reducible rfl) | (rintro e wn ⟨rfl, rfl⟩; refine ⟨?_, hS⟩; with_reducible rfl) | fail)) | fail); (simp only [Act.put, List.setIfInBounds_toArray, List.set_cons_zero, List.set_cons_succ]))
        refine doneD (by kernel_rfl) fun wH3 HS => ?_
        have H3 := Lib.hid HS; clear HS
        try clear x0 x1 x2 x3
        obtain ⟨x0, x1, x2, x3, _⟩ := H3.out.1
        have HO3 := Lib.hid (HO.out.step H3.out.below)
        have HK3 := Lib.hid (HK.out.below H3.out.below)
        have H4 := Lib.hid (H1.out.step H3.out.below)
        obtain ⟨hi, hz0, hz1, hz2⟩ := HI.out
        have hsz1 := H4.out.2.1.1
        have hks3 := HK3.out.1
        clear H1 HO HK hks
        go_wp2_with (at_builtin; refine wpList_append_int rfl _ _ 43 rfl Tryz.underlying43 hi hz0 hz1 hz2 (World.ownsRow.alloc HO3.out _) rfl rfl (cell_new0 _ _ _) (by omega) (by simp; omega) ?_)
        intro v' w5 hown hgrow hfresh
        have H5 := Lib.hid (H4.out.stepB (B := w.heap.size + 1) ⟨Nat.lt_succ_self _, Nat.lt_succ_self _, trivial⟩ (grown_below HO3.out hsz1 hgrow) (Nat.le_succ _))
        have HK5 := Lib.hid ((HK3.out.below (below_alloc _ (.cells #[.int .i64 nf] 3))).grown hgrow (fun k e => by have := HW.out k e; omega))
        have HW5 := Lib.hid (show ∀ k, v'.ownBlock = some k → k < w.heap.size + 1 + 1 ∨ w1.heap.size ≤ k from fun k hk => by
          rcases hfresh with e | e
          · exact HW.out k (by rw [← e]; exact hk)
          · rw [e] at hk
            have hk2 : wH3.heap.size + 1 = k := by simpa using hk
            omega)
        have HO5 := Lib.hid (Ints.more (xs := X m) (x := nf) (by simpa using hown))
        clear hown hgrow hfresh
        go_wp2_with fail
        exact ⟨⟨m + 1, by omega, by go_num, by rw [HUM.out]; exact HO5.out, HK5.out, HW5.out, H5.out⟩, by simp [intOf]; omega⟩
      · obtain rfl : m = r.length := by omega
        clear hsq
        go_wp2_with fail
        go_ret
        exact ⟨_, rfl, by rw [HR.out]; exact HO.out.mono (Nat.le_succ _), H1.out.below⟩
  · have HR := Lib.hid (show paneW ns ls f = [] from if_neg hf)
    rw [show inB f 0 (((wF ns ls).length : Int) - 1) = false from by
      rw [Bool.eq_false_iff]
      intro h
      simp [inB] at h
      exact hf ((idxB_iff _ _).2 (by omega))] at HIN
    clear hf
    have HN := Lib.hid hn
    have HL := Lib.hid hl
    have H0 := Lib.hid (held_pair w vn vl 31)
    obtain ⟨A, c, rfl⟩ := prs_form2 hn
    obtain ⟨A2, c2, rfl⟩ := prs_form2 hl
    clear hn hl
    have h40 := wF_len (ns := ns) (ls := ls)
    have H1 := Lib.hid (H0.out.alloc (.cells #[] 3))
    have HO1 := Lib.hid (Ints.made (w.alloc (.cells #[.slice A ns.length c, .slice A2 ls.length c2] 31)) (w.heap.size + 1) (w.heap.size + 1) (by simp) (Nat.le_refl _))
    clear H0
    obtain ⟨i0, hi, hz0, hz1, hz2⟩ := info_parts infoInt
    have HI := Lib.hid (And.intro hi (And.intro hz0 (And.intro hz1 hz2))); clear hi hz0 hz1 hz2
    generalize paneW ns ls f = res at *
    generalize wF ns ls = rs at *
    go_enter Tryz.func48, Tryz.ntmps48
    go_wp2_with fail
    refine (HF.out _ (HN.out.step H1.out.below) (HL.out.step H1.out.below)).mono ?_
    rintro e w1 ⟨vf, rfl, hf, hb⟩
    have hbase : ((w.alloc (.cells #[.slice A ns.length c, .slice A2 ls.length c2] 31)).alloc (.cells #[] 3)).heap.size = w.heap.size + 1 + 1 := by simp
    rw [hbase] at hf
    obtain ⟨a, c3, rfl, hmax, hro⟩ := hf.open2
    have HRO := Lib.hid hro; clear hro
    have H2 := Lib.hid (H1.out.step hb)
    have HO2 := Lib.hid (HO1.out.step hb)
    clear hb hf H1 HO1 hbase
    go_wp2_with fail
    refine (HIN.out _).mono ?_
    rintro e w9 ⟨rfl, rfl⟩
    go_wp2_with fail
    go_ret
    exact ⟨_, rfl, by rw [HR.out]; exact HO2.out.mono (Nat.le_succ _), H2.out.below⟩

theorem paneB_is (ns ls : List Nd) (f : Int) : paneB ns ls f = (decide (0 < (paneW ns ls f).length) && (decide (f ≠ outW ns ls) && diffB (paneW ns ls f))) := by
  unfold paneB testB paneW
  by_cases h : idxB (wF ns ls).length f = true
  · rw [if_pos h, h]
    obtain ⟨k, rfl, hk⟩ := idx_nat h
    rw [bord_len, show decide (0 < (atR (wF ns ls) (k : Int).toNat).length) = true from decide_eq_true (row_len hk).2]
  · rw [if_neg h, show idxB (wF ns ls).length f = false by simpa using h]
    rfl

set_option maxRecDepth 100000 in
set_option maxHeartbeats 2000000 in
theorem specIsPane (ns ls : List Nd) (vn vl : Value) (f : Int) (w : World) (hn : Prs w vn ns) (hl : Prs w vl ls) :
    Calls Tryz.prog 47 #[.agg #[vn, vl], .int .i64 f] w (BoolIs (paneB ns ls f) w) := by
  have HN := Lib.hid hn
  have HL := Lib.hid hl
  have HP := Lib.hid (fun w h1 h2 => specPaneNodes ns ls vn vl f w h1 h2)
  unfold IntsNew at HP
  have HO := Lib.hid (fun w h1 h2 => specOuterFace ns ls vn vl w h1 h2)
  unfold IntIs at HO
  have h40 := paneW_len ns ls f
  have HR := Lib.hid (paneB_is ns ls f)
  have HDY := Lib.hid (show (List.take (paneW ns ls f).length (paneW ns ls f)).Nodup → diffB (paneW ns ls f) = true from fun h => decide_eq_true (by rw [List.take_length] at h; exact h))
  have HNO := Lib.hid (fun m => diff_no (xs := paneW ns ls f) (m := m))
  have HTK := Lib.hid (fun m (h : m < (paneW ns ls f).length) => diff_take h)
  have H0 := Lib.hid (held_pair w vn vl 31)
  obtain ⟨A, c, rfl⟩ := prs_form2 hn
  obtain ⟨A2, c2, rfl⟩ := prs_form2 hl
  clear hn hl
  generalize paneB ns ls f = res at *
  generalize outW ns ls = o at *
  generalize paneW ns ls f = xs at *
  generalize diffB xs = dif at *
  go_enter Tryz.func47, Tryz.ntmps47
  go_wp2_with fail
  refine (HP.out _ (HN.out.step H0.out.below) (HL.out.step H0.out.below)).mono ?_
  rintro e w1 ⟨v, rfl, hv, hb⟩
  have HB1 := Lib.hid (H0.out.below.trans (hb.mono H0.out.below.size))
  have HS := H0.out.step hb
  have H1 := Lib.hid (Held.start (w := w1) (fs := [(w.heap.size, 0, .slice A ns.length c), (w.heap.size, 1, .slice A2 ls.length c2)]) HS.1 HS.2.1)
  clear hb HS H0
  by_cases h0 : 0 < xs.length
  · obtain ⟨g, cv, rfl⟩ := hv.some_ h0
    have HV := Lib.hid hv; clear hv
    have g0 : (0 : Int) < (xs.length : Int) := by omega
    go_wp2_with fail
    go_loopw [6] (fun i wr => ∃ m : Nat, m ≤ xs.length ∧ i = .int .i64 m ∧ (xs.take m).Nodup ∧ Held w1 wr [(w.heap.size, 0, .slice A ns.length c), (w.heap.size, 1, .slice A2 ls.length c2)]) (fun i _ => xs.length - (intOf i).toNat)
    case atStart => exact ⟨0, Nat.zero_le _, rfl, by simp, H1.out⟩
    case round =>
      clear H1
      obtain ⟨m, hm, rfl, ha, hh⟩ := hrel
      have HA := Lib.hid ha; clear ha
      have H1 := Lib.hid hh; clear hh
      by_cases hlt : m < xs.length
      · have p1 : (0 : Int) ≤ m := by omega
        have p2 : (m : Int) < (xs.length : Int) := by omega
        have HT := Lib.hid (HTK.out m hlt)
        have HNM := Lib.hid (HNO.out (m + 1))
        go_wp2_with fail
        go_loopw [7] (fun j wq => ∃ n : Nat, n ≤ m ∧ j = .int .i64 n ∧ (∀ x, x < n → atZ xs x ≠ atZ xs m) ∧ Held w1 wq [(w.heap.size, 0, .slice A ns.length c), (w.heap.size, 1, .slice A2 ls.length c2)]) (fun j _ => m - (intOf j).toNat)
        case atStart => exact ⟨0, Nat.zero_le _, rfl, fun x hx => by omega, H1.out⟩
        case round =>
          clear H1
          obtain ⟨n, hn, rfl, hz, hh⟩ := hrel
          have HZ := Lib.hid hz; clear hz
          have H1 := Lib.hid hh; clear hh
          by_cases hlt2 : n < m
          · have n1 : (0 : Int) ≤ n := by omega
            have n2 : (n : Int) < (m : Int) := by omega
            have n3 : (n : Int) < (xs.length : Int) := by omega
            obtain ⟨c0, -, gl, -, -⟩ := (HV.out.step H1.out.below).at_ (j := m) (by omega)
            obtain ⟨d0, -, -, -, -⟩ := (HV.out.step H1.out.below).at_ (j := n) (by omega)
            have H2 := Lib.hid (held_plus H1.out (gs := [(g, m, .int .i64 (atZ xs m)), (g, n, .int .i64 (atZ xs n))]) ⟨c0, d0, trivial⟩ ⟨gl, gl, trivial⟩)
            clear c0 d0 gl
            obtain ⟨x0, x1, x2, x3, _⟩ := H2.out.1
            by_cases he : atZ xs n = atZ xs m
            · have e1 : (atZ xs n == atZ xs m) = true := by simp [he]
              have HX := Lib.hid (show dif = false from HNM.out (by
                rw [HT.out]
                rintro ⟨_, h⟩
                exact h (List.contains_iff_mem.2 (by
                  rw [← he, ← atZ_get (show n < xs.length by omega)]
                  exact List.mem_take_iff_getElem.2 ⟨n, by omega, rfl⟩))))
              go_wp2_with fail
              refine regionD (S := fun W => Held _ W [(w.heap.size, 0, .slice A ns.length c), (w.heap.size, 1, .slice A2 ls.length c2), (g, m, .int .i64 (atZ xs m)), (g, n, .int .i64 (atZ xs n))]) (by kernel_rfl) H2.out.drew ?_
              iterate 9 (refine takeT (v := ?_) rfl (by kernel_rfl) (by kernel_rfl) (by kernel_rfl) ?_ ?_; rotate_left; (first | (refine Or.inr ⟨by rfl, ?_⟩; with_reducible rfl) | (refine Or.inl ⟨by rfl, fun W hS => detRes_value (w' := W) ?_ hS⟩; obtain ⟨x0, x1, x2, x3, _⟩ := hS.1; go_simp; first | done | with_reducible rfl) | fail); (simp only [Act.put, List.setIfInBounds_toArray, List.set_cons_zero, List.set_cons_succ]))
              refine doneD (by kernel_rfl) fun wH3 HS => ?_
              have H3 := Lib.hid HS; clear HS
              try clear x0 x1 x2 x3
              obtain ⟨x0, x1, x2, x3, _⟩ := H3.out.1
              go_wp2_with fail
              go_ret
              exact ⟨ret_bool (by rw [HR.out, HX.out]; simp), HB1.out.trans (H3.out.below.mono HB1.out.size)⟩
            · have e1 : (atZ xs n == atZ xs m) = false := by rw [beq_eq_false_iff_ne]; exact he
              have HEN := Lib.hid he; clear he
              go_wp2_with fail
              refine regionD (S := fun W => Held _ W [(w.heap.size, 0, .slice A ns.length c), (w.heap.size, 1, .slice A2 ls.length c2), (g, m, .int .i64 (atZ xs m)), (g, n, .int .i64 (atZ xs n))]) (by kernel_rfl) H2.out.drew ?_
              iterate 9 (refine takeT (v := ?_) rfl (by kernel_rfl) (by kernel_rfl) (by kernel_rfl) ?_ ?_; rotate_left; (first | (refine Or.inr ⟨by rfl, ?_⟩; with_reducible rfl) | (refine Or.inl ⟨by rfl, fun W hS => detRes_value (w' := W) ?_ hS⟩; obtain ⟨x0, x1, x2, x3, _⟩ := hS.1; go_simp; first | done | with_reducible rfl) | fail); (simp only [Act.put, List.setIfInBounds_toArray, List.set_cons_zero, List.set_cons_succ]))
              refine doneD (by kernel_rfl) fun wH3 HS => ?_
              have H3 := Lib.hid HS; clear HS
              try clear x0 x1 x2 x3
              obtain ⟨x0, x1, x2, x3, _⟩ := H3.out.1
              go_wp2_with fail
              exact ⟨⟨n + 1, by omega, by go_num, fun x hx => by
                by_cases e : x = n
                · subst e; exact HEN.out
                · exact HZ.out x (by omega), H3.out.only (fun ⟨a, b, _⟩ => ⟨a, b, trivial⟩) (fun ⟨a, b, _⟩ => ⟨a, b, trivial⟩)⟩, by simp [intOf]; omega⟩
          · obtain rfl : n = m := by omega
            have HT2 := Lib.hid (show (xs.take (n + 1)).Nodup from HT.out.2 ⟨HA.out, fun h => by
              obtain ⟨i, hi, e⟩ := List.mem_take_iff_getElem.1 (List.contains_iff_mem.1 h)
              exact HZ.out i (by omega) (by rw [← atZ_get (show i < xs.length by omega)]; exact e)⟩)
            go_wp2_with fail
            exact ⟨⟨n + 1, by omega, by go_num, HT2.out, H1.out⟩, by simp [intOf]; omega⟩
      · obtain rfl : m = xs.length := by omega
        have HX := Lib.hid (HDY.out HA.out)
        obtain ⟨x0, x1, _⟩ := H1.out.1
        by_cases ho : f = o
        · have e1 : (f != o) = false := by simp [ho]
          have HXX := Lib.hid (show res = false from by rw [HR.out]; simp [ho])
          clear ho
          go_wp2_with fail
          refine (HO.out _ (HN.out.step (HB1.out.trans (H1.out.below.mono HB1.out.size))) (HL.out.step (HB1.out.trans (H1.out.below.mono HB1.out.size)))).mono ?_
          rintro e w3 ⟨rfl, hb⟩
          have B3 := Lib.hid (HB1.out.trans ((H1.out.below.trans (hb.mono H1.out.below.size)).mono HB1.out.size)); clear hb
          go_wp2_with fail
          go_ret
          exact ⟨ret_bool HXX.out.symm, B3.out⟩
        · have e1 : (f != o) = true := by simp [ho]
          have HXX := Lib.hid (show res = true from by rw [HR.out, HX.out]; simp [ho, h0])
          clear ho
          go_wp2_with fail
          refine (HO.out _ (HN.out.step (HB1.out.trans (H1.out.below.mono HB1.out.size))) (HL.out.step (HB1.out.trans (H1.out.below.mono HB1.out.size)))).mono ?_
          rintro e w3 ⟨rfl, hb⟩
          have B3 := Lib.hid (HB1.out.trans ((H1.out.below.trans (hb.mono H1.out.below.size)).mono HB1.out.size)); clear hb
          go_wp2_with fail
          go_ret
          exact ⟨ret_bool HXX.out.symm, B3.out⟩
  · have hx : xs = [] := List.eq_nil_of_length_eq_zero (by omega)
    subst hx
    obtain ⟨a, cv, rfl⟩ := ints_form hv
    clear hv
    go_wp2_with fail
    refine wp_loop_rounds 1 ?_
    rw [rounds_succ]
    go_wp2_with fail
    go_ret
    exact ⟨ret_bool (by rw [HR.out]; simp), HB1.out⟩

end Go.Proofs.YtmboilogcnmlnaaGreat
