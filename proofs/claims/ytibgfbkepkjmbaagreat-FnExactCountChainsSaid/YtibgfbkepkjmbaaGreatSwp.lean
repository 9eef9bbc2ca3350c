/-
  Two colors exchanged along a list of faces, of the model and of the program; SwapChain.
-/
import Derived.Test.YtibgfbkepkjmbaaGreatSwpP
import Derived.Test.YtibgfbkepkjmbaaGreatG19
import Derived.Test.YtibgfbkepkjmbaaGreatCln
import Derived.Test.YtibgfbkepkjmbaaGreatUfS
import Derived.BigRegion
namespace Go.Proofs.YtibgfbkepkjmbaaGreat
open Go.RowKit
set_option linter.unusedVariables false
set_option linter.unusedSimpArgs false

theorem swpC_yes {xs : List Int} {f q : Nat} {x : Int} (h : atZ xs q = x) : swpC xs f x (q : Int) = atZ xs f := by unfold swpC; rw [Int.toNat_natCast, if_pos h]

theorem swpC_no {xs : List Int} {f q : Nat} {x : Int} (h : atZ xs q ≠ x) : swpC xs f x (q : Int) = x := by unfold swpC; rw [Int.toNat_natCast, if_neg h]

set_option maxRecDepth 100000 in
set_option maxHeartbeats 1000000 in
theorem specSwp (T xs : List Int) (vT vx : Value) (f : Nat) (x : Int) (w : World) (hT : Seq w vT T) (hx : Seq w vx xs) (hf : f < xs.length) (hl : xs.length ≤ 1000) (hTl : T.length ≤ 1000) (hN : ∀ k, k < T.length → ∃ q : Nat, atZ T k = q ∧ q < xs.length) :
    Calls Tryz.prog 55 #[vT, vx, .int .i64 f, .int .i64 x] w (IntsNew (swpL xs f x T) w) := by
  have HT := Lib.hid hT
  have HX := Lib.hid hx
  obtain ⟨A1, c1, rfl⟩ := seq_form2 hT
  obtain ⟨A2, c2, rfl⟩ := seq_form2 hx
  obtain ⟨bx, ox, rfl, hbx, hcx⟩ := seq_at HX.out f hf
  have HXC := Lib.hid (fun W (hb : Below w.heap.size w W) i (hi : i < xs.length) => (hb.cell (p := ⟨bx, ox + i, none⟩) hbx).trans (hcx i hi))
  clear hT hx hbx hcx
  have HN := Lib.hid hN; clear hN
  have HSU := Lib.hid (fun k (h : k < T.length) => swp_succ (xs := xs) (f := f) (x := x) h)
  have HSE := Lib.hid (show swpL xs f x (T.take T.length) = swpL xs f x T from by rw [List.take_length])
  have HS0 := Lib.hid (show swpL xs f x (T.take 0) = xs from rfl)
  have HSL := Lib.hid (fun k => swp_len xs f x (T.take k))
  have HCY := Lib.hid (fun q h => swpC_yes (xs := xs) (f := f) (q := q) (x := x) h)
  have HCN := Lib.hid (fun q h => swpC_no (xs := xs) (f := f) (q := q) (x := x) h)
  generalize swpC xs f x = C at *
  generalize hS : (fun k => swpL xs f x (T.take k)) = S at *
  have HSS := Lib.hid (fun k => (show swpL xs f x (T.take k) = S k from by rw [← hS])); clear hS
  have HSU := Lib.hid (fun k (h : k < T.length) => (show S (k + 1) = (S k).set (atZ T k).toNat (C (atZ T k)) from by rw [← HSS.out, ← HSS.out]; exact HSU.out k h))
  have HSE := Lib.hid (show S T.length = swpL xs f x T from by rw [← HSS.out]; exact HSE.out)
  have HS0 := Lib.hid (show S 0 = xs from by rw [← HSS.out]; exact HS0.out)
  have HSL := Lib.hid (fun k => (show (S k).length = xs.length from by rw [← HSS.out]; exact HSL.out k))
  clear HSS
  generalize swpL xs f x T = R at *
  obtain ⟨i0, hi, hz0, hz1, hz2⟩ := info_parts infoInt
  obtain ⟨v', w', hr, ho, hbb⟩ := run_append_seq (P := Tryz.prog) (ty := 37) (B := w.heap.size) Tryz.underlying37 hi hz0 hz1 hz2 (heap_alloc_new w (.cells #[] 3)) (Nat.le_refl _) (HX.out.step (below_alloc w (.cells #[] 3))) (by omega)
  have HO := Lib.hid ho
  have HB := Lib.hid ((below_alloc w (.cells #[] 3)).trans (hbb.mono (by simp)))
  clear hi hz0 hz1 hz2 ho hbb
  obtain ⟨g, c, rfl⟩ := HO.out.some_ (by omega)
  have p1 : (0 : Int) ≤ f := by omega
  have p2 : (f : Int) < (xs.length : Int) := by omega
  go_enter Tryz.func55, Tryz.ntmps55
  go_wp2_with (at_builtin; refine wpList_append_run rfl _ _ 37 rfl _ w' hr ?_)
  clear hr
  go_wp2_with fail
  go_loopw [10] (fun i wr => ∃ k : Nat, k ≤ T.length ∧ i = .int .i64 k ∧ Ints wr w.heap.size (.slice (some ⟨g, 0, none⟩) xs.length c) (S k) ∧ Below w.heap.size w wr) (fun i _ => T.length - (intOf i).toNat)
  case atStart => exact ⟨0, Nat.zero_le _, rfl, by rw [HS0.out]; exact HO.out, HB.out⟩
  case round =>
    clear HO HB
    obtain ⟨k, hk, rfl, hi, hb⟩ := hrel
    have HI := Lib.hid hi; clear hi
    have HB := Lib.hid hb; clear hb
    by_cases hlt : k < T.length
    · obtain ⟨q, hq, hqN⟩ := HN.out k hlt
      obtain ⟨bT, oT, rfl, hbT, hcT⟩ := seq_at (HT.out.step HB.out) k hlt
      have t0 := hcT k hlt
      rw [hq] at t0
      have HS := Lib.hid (HSU.out k hlt)
      rw [hq, Int.toNat_natCast] at HS
      have c1 := HXC.out wr HB.out q hqN
      have c2 := HXC.out wr HB.out f hf
      obtain ⟨y0, y1, y2, -, -⟩ := HI.out.at_ (j := q) (by rw [HSL.out]; exact hqN)
      have q0 : (0 : Int) ≤ k := by omega
      have q1 : (k : Int) < (T.length : Int) := by omega
      have q2 : (0 : Int) ≤ q := by omega
      have q3 : (q : Int) < (xs.length : Int) := by omega
      have hown : g ≥ w.heap.size := (HI.out.own g rfl).1
      clear hcT hbT y2
      by_cases hz : atZ xs q = x
      · have E := Lib.hid (HCY.out q hz)
        rw [hz] at c1
        generalize atZ xs f = y at *
        clear hq hz
        go_wp2_with fail
        go_big_region
        all_goals go_wp2_with fail
        exact ⟨⟨k + 1, by omega, by go_num, by rw [HS.out, E.out]; exact (HI.out.set_ (HSL.out k).symm q y).step ((Below.refl _ _).drew), by exact (below_setCell HB.out hown).drew⟩, by simp [intOf]; omega⟩
      · have E := Lib.hid (HCN.out q hz)
        have e1 : (atZ xs q == x) = false := by rw [beq_eq_false_iff_ne]; exact hz
        generalize atZ xs q = z at *
        clear hq hz
        go_wp2_with fail
        exact ⟨⟨k + 1, by omega, by go_num, by rw [HS.out, E.out]; exact HI.out.set_ (HSL.out k).symm q x, below_setCell HB.out hown⟩, by simp [intOf]; omega⟩
    · obtain rfl : k = T.length := by omega
      go_wp2_with fail
      go_ret
      exact ⟨_, rfl, by rw [← HSE.out, ← HSL.out T.length] at *; exact HI.out, HB.out⟩

set_option maxRecDepth 100000 in
set_option maxHeartbeats 1000000 in
theorem implSwapped (v1 v2 v3 v4 vx : Value) (rs : List (List Int)) (ds xs : List Int) (ns ls : List Nd) (B B2 f : Nat) (c : Int) (w : World) (hn : Prs w v1 ns) (hl : Prs w v2 ls) (hfc : Faces w B v3 rs) (ha : Ints w B2 v4 ds) (hv : Seq w vx xs) (hk : ds.length = 2 * ls.length) (hd : ls.length ≤ 20) (hN : rs.length ≤ 13) (hxl : xs.length = rs.length) (hf : f < rs.length)
    (hr : ∀ i, i < xs.length → 0 ≤ atZ xs i ∧ atZ xs i ≤ 5) (hc : 0 ≤ c ∧ c ≤ 5) :
    Calls Tryz.prog 60 #[.agg #[v1, v2, v3, v4], vx, .int .i64 f, .int .i64 c] w (IntsNew (swpL xs f c (chnL (besM ds ls.length) (chnP xs f c) rs.length f)) w) := by
  have HCH := Lib.hid (fun W (hb : Below w.heap.size w W) => implChain v1 v2 v3 v4 vx rs ds xs ns ls B B2 f c W (hn.step hb) (hl.step hb) (hfc.step hb) (ha.step hb) (hv.step hb) hk hd hN hxl hf)
  unfold IntsNew at HCH
  have HCL := Lib.hid (fun W (hb : Below w.heap.size w W) => cloneInts xs vx W (hv.step hb) (by omega))
  unfold IntsNew at HCL
  have HV := Lib.hid hv
  obtain ⟨A, c1, rfl⟩ := prs_form2 hn
  obtain ⟨A2, c2, rfl⟩ := prs_form2 hl
  obtain ⟨A3, c3, rfl⟩ := faces_form hfc
  obtain ⟨A4, c4, rfl⟩ := ints_form ha
  obtain ⟨A5, c5, rfl⟩ := seq_form2 hv
  clear hn hl hfc ha hv hk
  have HH := Lib.hid (fun k (hk : k < (chnL (besM ds ls.length) (chnP xs f c) rs.length f).length) => chn_has (M := besM ds ls.length) (P := chnP xs f c) (N := rs.length) (f := f) (R := fun z => atZ xs z.toNat = c ∨ atZ xs z.toNat = atZ xs f) (.inr rfl) (fun z hz => by unfold chnP at hz; simpa using hz) hk)
  have HTL := Lib.hid (show (chnL (besM ds ls.length) (chnP xs f c) rs.length f).length ≤ 13 from by
    unfold chnL
    have := fltN_len (fun i => (qL (besM ds ls.length) (chnP xs f c) rs.length f rs.length).contains (i : Int)) rs.length
    omega)
  generalize chnL (besM ds ls.length) (chnP xs f c) rs.length f = T at *
  obtain ⟨bx, ox, rfl, hbx, hcx⟩ := seq_at HV.out f (by omega)
  have HXC := Lib.hid (fun W (hb : Below w.heap.size w W) i (hi : i < xs.length) => (hb.cell (p := ⟨bx, ox + i, none⟩) hbx).trans (hcx i hi))
  clear hbx hcx HV
  have HXL := Lib.hid hxl
  have hf' : f < xs.length := by omega
  have HR := Lib.hid hr; clear hr
  have HSU := Lib.hid (fun k (h : k < T.length) => swp_succ (xs := xs) (f := f) (x := c) h)
  have HSE := Lib.hid (show swpL xs f c (T.take T.length) = swpL xs f c T from by rw [List.take_length])
  have HS0 := Lib.hid (show swpL xs f c (T.take 0) = xs from rfl)
  have HSL := Lib.hid (fun k => swp_len xs f c (T.take k))
  have HSUM := Lib.hid (fun q h => swp_sum (xs := xs) (f := f) (x := c) (h := q) h)
  generalize swpC xs f c = C at *
  generalize hS : (fun k => swpL xs f c (T.take k)) = S at *
  have HSS := Lib.hid (fun k => (show swpL xs f c (T.take k) = S k from by rw [← hS])); clear hS
  have HSU := Lib.hid (fun k (h : k < T.length) => (show S (k + 1) = (S k).set (atZ T k).toNat (C (atZ T k)) from by rw [← HSS.out, ← HSS.out]; exact HSU.out k h))
  have HSE := Lib.hid (show S T.length = swpL xs f c T from by rw [← HSS.out]; exact HSE.out)
  have HS0 := Lib.hid (show S 0 = xs from by rw [← HSS.out]; exact HS0.out)
  have HSL := Lib.hid (fun k => (show (S k).length = xs.length from by rw [← HSS.out]; exact HSL.out k))
  clear HSS
  generalize swpL xs f c T = R at *
  have H0 := Lib.hid (heldG w (.slice A ns.length c1) (.slice A2 ls.length c2) (.slice A3 rs.length c3) (.slice A4 ds.length c4) 71)
  have p1 : (0 : Int) ≤ f := by omega
  have p2 : (f : Int) < (xs.length : Int) := by omega
  clear hxl
  go_enter Tryz.func60, Tryz.ntmps60
  go_wp2_with fail
  refine (HCL.out _ H0.out.below).mono ?_
  rintro e w1 ⟨vo, rfl, ho, hb⟩
  have H1 := Lib.hid (H0.out.step hb)
  have HO1 := Lib.hid (ho.mono (b' := w.heap.size) H0.out.below.size)
  have HOL := Lib.hid (fun k e => (ho.own k e).2)
  clear hb ho
  obtain ⟨x0, x1, x2, x3, _⟩ := H1.out.1
  go_wp2_with fail
  refine (HCH.out _ H1.out.below).mono ?_
  rintro e w2 ⟨vT, rfl, hT, hb⟩
  have HO2 := Lib.hid (HO1.out.step hb)
  have HT2 := Lib.hid hT
  have HB2 := Lib.hid ((H1.out.step hb).below)
  obtain ⟨g, c9, rfl⟩ := HO2.out.some_ (by omega)
  have hg1 := HOL.out g rfl
  obtain ⟨aT, cT, rfl, -⟩ := hT.form
  have hlo := (HO1.out.own g rfl).1
  clear hb hT x0 x1 x2 x3 H1 HO1 HOL H0 HCH HCL
  go_wp2_with fail
  go_loopw [20] (fun i wr => ∃ k : Nat, k ≤ T.length ∧ i = .int .i64 k ∧ Ints wr w.heap.size (.slice (some ⟨g, 0, none⟩) xs.length c9) (S k) ∧ Ints wr w1.heap.size (.slice aT T.length cT) T ∧ Below w.heap.size w wr) (fun i _ => T.length - (intOf i).toNat)
  case atStart => exact ⟨0, Nat.zero_le _, rfl, by rw [HS0.out]; exact HO2.out, HT2.out, HB2.out⟩
  case round =>
    clear HO2 HT2 HB2
    obtain ⟨k, hk, rfl, hi, ht, hb⟩ := hrel
    have HI := Lib.hid hi; clear hi
    have HT := Lib.hid ht; clear ht
    have HB := Lib.hid hb; clear hb
    by_cases hlt : k < T.length
    · obtain ⟨q, hq, hqN, hqc⟩ := HH.out k hlt
      obtain ⟨gT, cT', hvT⟩ := HT.out.some_ (by omega)
      simp only [Value.slice.injEq] at hvT
      obtain ⟨rfl, -, rfl⟩ := hvT
      obtain ⟨t0, -, t1, -, -⟩ := HT.out.at_ hlt
      rw [hq] at t0
      rw [Int.toNat_natCast] at hqc
      have HS := Lib.hid (HSU.out k hlt)
      rw [hq, Int.toNat_natCast, ← HSUM.out (q : Int) (by rw [Int.toNat_natCast]; exact hqc), Int.toNat_natCast] at HS
      have hqx : q < xs.length := by rw [HXL.out]; exact hqN
      have cc1 := HXC.out wr HB.out q hqx
      have cc2 := HXC.out wr HB.out f hf'
      have b1 := HR.out q hqx
      have b2 := HR.out f hf'
      obtain ⟨y0, y1, -, -, -⟩ := HI.out.at_ (j := q) (by rw [HSL.out]; exact hqx)
      have q0 : (0 : Int) ≤ k := by omega
      have q1 : (k : Int) < (T.length : Int) := by omega
      have q2 : (0 : Int) ≤ q := by omega
      have q3 : (q : Int) < (xs.length : Int) := by omega
      generalize atZ xs q = z at *
      generalize atZ xs f = y at *
      have e1 : IntKind.i64.wrap (y + c) = y + c := IntWalk.i64_in _ (by omega)
      have e2 : IntKind.i64.wrap (y + c - z) = y + c - z := IntWalk.i64_in _ (by omega)
      clear hq hqc b1 b2
      have hTL := HTL.out
      go_wp2_with fail
      go_region_law (fail)
      all_goals go_wp2_with fail
      all_goals exact ⟨⟨k + 1, by omega, by go_num, by rw [HS.out]; exact (HI.out.set_ (HSL.out k).symm q (y + c - z)).step ((Below.refl _ _).drew), (HT.out.turn (Turn.put1 (g := g) (k := q) wr (.int .i64 (y + c - z))) (fun j e => .inr (by have := (HT.out.own j e).1; omega))).step ((Below.refl _ _).drew), by exact (below_setCell HB.out hlo).drew⟩, by simp [intOf]; omega⟩
    · obtain rfl : k = T.length := by omega
      go_wp2_with fail
      go_ret
      exact ⟨_, rfl, by rw [← HSE.out, ← HSL.out T.length] at *; exact HI.out, HB.out⟩

/-- Whether a chain may be swapped, and the colors then. -/
noncomputable def swB (ns ls : List Nd) (xs : List Int) (f c : Int) : Bool := coB ns ls xs f c && !decide (c = atZ xs f.toNat)

noncomputable def swL (ns ls : List Nd) (xs : List Int) (f c : Int) : List Int := if swB ns ls xs f c = true then swpL xs f.toNat c (coL ns ls xs f c) else xs

theorem swL_no {ns ls : List Nd} {xs : List Int} {f c : Int} (h : swB ns ls xs f c = false) : swL ns ls xs f c = xs := if_neg (by rw [h]; simp)

theorem swL_yes {ns ls : List Nd} {xs : List Int} {f c : Int} (q : Nat) (hq : f = q) (h : swB ns ls xs f c = true) : swL ns ls xs f c = swpL xs q c (coL ns ls xs f c) := by unfold swL; rw [if_pos h, hq]; rfl

theorem swL_len (ns ls : List Nd) (xs : List Int) (f c : Int) : (swL ns ls xs f c).length = xs.length := by
  unfold swL
  split
  · exact swp_len _ _ _ _
  · rfl

theorem proper_in {ns ls : List Nd} {xs : List Int} (h : properB ns ls xs = true) : ∀ i, i < xs.length → 0 ≤ atZ xs i ∧ atZ xs i ≤ 5 := by
  unfold properB at h
  simp only [Bool.and_eq_true] at h
  exact fun i hi => (inR_iff xs 0 5).1 (listB_parts h.1).2.2 i hi

/-- What is known where a chain may be asked for. -/
theorem co_yes {ns ls : List Nd} {xs : List Int} {f c : Int} (h : coB ns ls xs f c = true) : ∃ q : Nat, f = q ∧ q < xs.length ∧ xs.length = (wF ns ls).length ∧ xs.length ≤ 13 ∧ 0 < (coL ns ls xs f c).length ∧ (coL ns ls xs f c).length ≤ 13 ∧ ∀ k, k < (coL ns ls xs f c).length → ∃ p : Nat, atZ (coL ns ls xs f c) k = p ∧ p < xs.length := by
  have h2 := h
  unfold coB at h2
  simp only [Bool.and_eq_true] at h2
  have h3 := (idxB_iff _ _).1 h2.2.1
  have h4 := (co_list h2.1).2
  have h13 := wF_thirteen ns ls
  refine ⟨f.toNat, by omega, by omega, h4, by omega, ?_⟩
  have e := coL_yes f.toNat (by omega) h
  have hfN : f.toNat < (wF ns ls).length := by omega
  rw [e]
  refine ⟨chn_pos hfN, ?_, fun k hk => ?_⟩
  · unfold chnL
    have := fltN_len (fun i => (qL (besM (atW ns ls) ls.length) (chnP xs f.toNat c) (wF ns ls).length f.toNat (wF ns ls).length).contains (i : Int)) (wF ns ls).length
    omega
  · obtain ⟨p, h5, h6, _⟩ := chn_has (R := fun _ => True) trivial (fun _ _ => trivial) hk
    exact ⟨p, h5, by omega⟩

set_option maxRecDepth 100000 in
set_option maxHeartbeats 1000000 in
theorem specSwapChain (ns ls : List Nd) (xs : List Int) (vn vl v : Value) (f c : Int) (w : World) (hn : Prs w vn ns) (hl : Prs w vl ls) (hv : Seq w v xs) (hlen : xs.length ≤ 1048576) :
    Calls Tryz.prog 18 #[.agg #[vn, vl], v, .int .i64 f, .int .i64 c] w (CwRet (swB ns ls xs f c) (swL ns ls xs f c) w) := by
  have HCO := Lib.hid (fun w h1 h2 h3 => specChainOf ns ls xs vn vl v f c w h1 h2 h3)
  unfold IntsNew at HCO
  have HSW := Lib.hid (fun (q : Nat) (T : List Int) vT w (hT : Seq w vT T) (hx : Seq w v xs) (h1 : q < xs.length) (h2 : xs.length ≤ 1000) (h3 : T.length ≤ 1000) h4 => specSwp T xs vT v q c w hT hx h1 h2 h3 h4)
  unfold IntsNew at HSW
  have HY := Lib.hid (fun q h1 h2 => swL_yes (ns := ns) (ls := ls) (xs := xs) (f := f) (c := c) q h1 h2)
  have HNO := Lib.hid (fun h => swL_no (ns := ns) (ls := ls) (xs := xs) (f := f) (c := c) h)
  have HSB := Lib.hid (show swB ns ls xs f c = (coB ns ls xs f c && !decide (c = atZ xs f.toNat)) from rfl)
  have HCY := Lib.hid (fun h => co_yes (ns := ns) (ls := ls) (xs := xs) (f := f) (c := c) h)
  have HCN := Lib.hid (fun h => coL_no (ns := ns) (ls := ls) (xs := xs) (f := f) (c := c) h)
  have HN := Lib.hid hn
  have HL := Lib.hid hl
  have HV := Lib.hid hv
  have H0 := Lib.hid (held_pair w vn vl 30)
  obtain ⟨A, c1, rfl⟩ := prs_form2 hn
  obtain ⟨A2, c2, rfl⟩ := prs_form2 hl
  obtain ⟨A3, c3, rfl⟩ := seq_form2 hv
  clear hn hl hv
  generalize swB ns ls xs f c = sb at *
  generalize swL ns ls xs f c = R at *
  generalize coB ns ls xs f c = cb at *
  generalize coL ns ls xs f c = T at *
  go_enter Tryz.func18, Tryz.ntmps18
  obtain ⟨x0, x1, _⟩ := H0.out.1
  go_wp2_with fail
  refine (HCO.out _ (HN.out.step H0.out.below) (HL.out.step H0.out.below) (HV.out.step H0.out.below)).mono ?_
  rintro e w1 ⟨vT, rfl, hT, hb⟩
  have H1 := Lib.hid (H0.out.step hb)
  have HT := Lib.hid hT.seq
  obtain ⟨aT, cT, rfl, -⟩ := hT.form
  clear hb hT x0 x1
  cases cb
  · obtain rfl : T = [] := HCN.out (by first | rfl | trivial)
    obtain rfl : sb = false := by simpa using HSB.out
    obtain ⟨i0, hi, hz0, hz1, hz2⟩ := info_parts infoInt
    obtain ⟨v', w', hr, ho, hbb⟩ := run_append_seq (P := Tryz.prog) (ty := 37) (B := w.heap.size) Tryz.underlying37 hi hz0 hz1 hz2 (heap_alloc_new w1 (.cells #[] 3)) H1.out.below.size ((HV.out.step H1.out.below).step (below_alloc w1 (.cells #[] 3))) hlen
    have HO := Lib.hid ho
    have HB := Lib.hid (H1.out.below.trans (((below_alloc w1 (.cells #[] 3)).trans (hbb.mono (by simp))).mono H1.out.below.size))
    clear hi hz0 hz1 hz2 ho hbb
    clear HSW HY HCO HT
    simp only [List.length_nil]
    have HF := Lib.hid (HNO.out (by first | rfl | trivial))
    go_wp2_with (at_builtin; refine wpList_append_run rfl _ _ 37 rfl _ w' hr ?_)
    go_wp2_with fail
    exact bodyPost_ret (v := .tuple #[v', .bool false]) (by simp [results, Tryz.results18, go_sem]) rfl (by unfold CwRet; exact ⟨⟨_, rfl, by rw [HF.out]; exact HO.out⟩, HB.out⟩)
  · obtain ⟨q, rfl, hq, hqN, h13, hp, hT13, hat⟩ := HCY.out (by first | rfl | trivial)
    obtain ⟨bx, ox, rfl, hbx, hcx⟩ := seq_at (HV.out.step H1.out.below) q hq
    have cq := hcx q hq
    have HQN := Lib.hid hqN; clear hqN hcx hbx
    have q1 : (0 : Int) ≤ q := by omega
    have q2 : (q : Int) < (xs.length : Int) := by omega
    have t1 : ((T.length : Int) == 0) = false := by rw [beq_eq_false_iff_ne]; omega
    have HSB2 := Lib.hid (show sb = !decide (c = atZ xs q) from HSB.out)
    have HSWQ := Lib.hid (HSW.out q T (.slice aT T.length cT) w1 HT.out (HV.out.step H1.out.below) hq (by omega) (by omega) hat)
    have HYQ := Lib.hid (HY.out q rfl)
    clear HSB HSW HY
    by_cases hz : atZ xs q = c
    · obtain rfl : sb = false := by rw [HSB2.out]; simp [hz]
      rw [hz] at cq
      obtain ⟨i0, hi, hz0, hz1, hz2⟩ := info_parts infoInt
      obtain ⟨v', w', hr, ho, hbb⟩ := run_append_seq (P := Tryz.prog) (ty := 37) (B := w.heap.size) Tryz.underlying37 hi hz0 hz1 hz2 (heap_alloc_new w1 (.cells #[] 3)) H1.out.below.size ((HV.out.step H1.out.below).step (below_alloc w1 (.cells #[] 3))) hlen
      have HO := Lib.hid ho
      have HB := Lib.hid (H1.out.below.trans (((below_alloc w1 (.cells #[] 3)).trans (hbb.mono (by simp))).mono H1.out.below.size))
      clear hi hz0 hz1 hz2 ho hbb
      clear HSB2 hz HSWQ HYQ hat
      have HF := Lib.hid (HNO.out (by first | rfl | trivial))
      go_wp2_with (at_builtin; refine wpList_append_run rfl _ _ 37 rfl _ w' hr ?_)
      go_wp2_with fail
      exact bodyPost_ret (v := .tuple #[v', .bool false]) (by simp [results, Tryz.results18, go_sem]) rfl (by unfold CwRet; exact ⟨⟨_, rfl, by rw [HF.out]; exact HO.out⟩, HB.out⟩)
    · have e1 : (atZ xs q == c) = false := by rw [beq_eq_false_iff_ne]; exact hz
      obtain rfl : sb = true := by rw [HSB2.out]; simp; exact fun h => hz h.symm
      have HRQ := Lib.hid (HYQ.out (by first | rfl | trivial))
      rw [← HRQ.out] at HSWQ
      clear HSB2 hz HYQ hat
      generalize atZ xs q = z at *
      go_wp2_with fail
      refine HSWQ.out.mono ?_
      rintro e w2 ⟨v2, rfl, hi, hb⟩
      go_wp2_with fail
      exact bodyPost_ret (v := .tuple #[v2, .bool true]) (by simp [results, Tryz.results18, go_sem]) rfl (by unfold CwRet; exact ⟨⟨_, rfl, hi.mono H1.out.below.size⟩, (H1.out.step hb).below⟩)

set_option maxRecDepth 100000 in
set_option maxHeartbeats 1000000 in
theorem implSwapChain (ns ls : List Nd) (xs : List Int) (vn vl v : Value) (f c : Int) (w : World) (hn : Prs w vn ns) (hl : Prs w vl ls) (hv : Seq w v xs) (hlen : xs.length ≤ 1048576) :
    Calls Tryz.prog 20 #[.agg #[vn, vl], v, .int .i64 f, .int .i64 c] w (CwRet (swB ns ls xs f c) (swL ns ls xs f c) w) := by
  have HWG := Lib.hid (fun w h1 h2 h3 => implProperG ns ls xs vn vl v w h1 h2 h3)
  unfold GlassL at HWG
  have HHF := Lib.hid (fun (A1 A2 A3 A4 : Option Addr) (n1 c1 n2 c2 c3 n4 c4 : Nat) w => implHasFace A1 A2 A3 A4 n1 c1 n2 c2 (wF ns ls).length c3 n4 c4 f w (by have := wF_len (ns := ns) (ls := ls); omega))
  unfold BoolIs at HHF
  have HIC := Lib.hid (fun w => implIsColor1 c w)
  unfold BoolIs at HIC
  have HCL := Lib.hid (fun W (hb : Below w.heap.size w W) => cloneInts xs v W (hv.step hb) hlen)
  unfold IntsNew at HCL
  have HSW := Lib.hid (fun (q : Nat) (hp : properB ns ls xs = true) (hq : q < (wF ns ls).length) (hic : 0 ≤ c ∧ c ≤ 5) v1 v2 v3 v4 vx B w h1 h2 h3 h4 h5 => implSwapped v1 v2 v3 v4 vx (wF ns ls) (gA ns ls) xs (gN ns ls) (gL ns ls) B B q c w h1 h2 h3 h4 h5 (g_len ns ls).1 (g_len ns ls).2 (wF_thirteen ns ls) (co_list hp).2 hq (proper_in hp) hic)
  unfold IntsNew at HSW
  have HY := Lib.hid (fun (q : Nat) (h1 : f = q) (h2 : swB ns ls xs f c = true) => (show swL ns ls xs f c = swpL xs q c (chnL (besM (gA ns ls) (gL ns ls).length) (chnP xs q c) (wF ns ls).length q) from by
    have hco : coB ns ls xs f c = true := by unfold swB at h2; simp only [Bool.and_eq_true] at h2; exact h2.1
    have hp : properB ns ls xs = true := by unfold coB at hco; simp only [Bool.and_eq_true] at hco; exact hco.1
    rw [swL_yes q h1 h2, coL_yes q h1 hco, (gA_whole2 (co_list hp).1).1, (gA_whole2 (co_list hp).1).2]))
  have HNO := Lib.hid (fun h => swL_no (ns := ns) (ls := ls) (xs := xs) (f := f) (c := c) h)
  have HSB := Lib.hid (show swB ns ls xs f c = (properB ns ls xs && (idxB xs.length f && inB c 0 5) && !decide (c = atZ xs f.toNat)) from rfl)
  have HPT := Lib.hid (fun h => (co_list (ns := ns) (ls := ls) (xs := xs) h).2)
  have HIX := Lib.hid (idxB_iff xs.length f)
  have HIC2 := Lib.hid (inB_iff c 0 5)
  have h13 := wF_thirteen ns ls
  have HN := Lib.hid hn
  have HL := Lib.hid hl
  have HV := Lib.hid hv
  have H0 := Lib.hid (held_pair w vn vl 30)
  obtain ⟨A, c1, rfl⟩ := prs_form2 hn
  obtain ⟨A2, c2, rfl⟩ := prs_form2 hl
  obtain ⟨A3, c3, rfl⟩ := seq_form2 hv
  clear hn hl hv
  generalize swB ns ls xs f c = sb at *
  generalize swL ns ls xs f c = R at *
  generalize properB ns ls xs = pb at *
  generalize inB c 0 5 = ic at *
  generalize gN ns ls = ns' at *
  generalize gL ns ls = ls' at *
  generalize gA ns ls = ds at *
  generalize wF ns ls = rs at *
  go_enter Tryz.func20, Tryz.ntmps20
  obtain ⟨x0, x1, _⟩ := H0.out.1
  go_wp2_with fail
  refine (HWG.out _ (HN.out.step H0.out.below) (HL.out.step H0.out.below) (HV.out.step H0.out.below)).mono ?_
  rintro e w1 ⟨v1, v2, v3, v4, rfl, g1, g2, g3, g4, hb⟩
  have H1 := Lib.hid (H0.out.step hb)
  have G0 := Lib.hid (heldG w1 v1 v2 v3 v4 71)
  have BN := Lib.hid (H1.out.below.trans (G0.out.below.mono H1.out.below.size))
  have G1 := Lib.hid (g1.step G0.out.below)
  have G2 := Lib.hid (g2.step G0.out.below)
  have G3 := Lib.hid (g3.step G0.out.below)
  have G4 := Lib.hid (g4.step G0.out.below)
  obtain ⟨A5, c5, rfl⟩ := prs_form2 g1
  obtain ⟨A6, c6, rfl⟩ := prs_form2 g2
  obtain ⟨A7, c7, rfl⟩ := faces_form g3
  obtain ⟨A8, c8, rfl⟩ := ints_form g4
  clear hb g1 g2 g3 g4 x0 x1
  obtain ⟨x0, x1, x2, x3, _⟩ := G0.out.1
  cases pb
  · obtain rfl : sb = false := by simpa using HSB.out
    have HF := Lib.hid (HNO.out (by first | rfl | trivial))
    go_wp2_with fail
    refine (HCL.out _ BN.out).mono ?_
    rintro e w9 ⟨v9, rfl, hi, hb9⟩
    go_wp2_with fail
    exact bodyPost_ret (v := .tuple #[v9, .bool false]) (by simp [results, Tryz.results20, go_sem]) rfl (by unfold CwRet; exact ⟨⟨_, rfl, by rw [HF.out]; exact hi.mono BN.out.size⟩, BN.out.trans (hb9.mono BN.out.size)⟩)
  · have hxl := HPT.out (by first | rfl | trivial)
    have HXL := Lib.hid hxl
    rw [hxl] at HSB HIX
    clear hxl
    generalize idxB rs.length f = ib at *
    go_wp2_with fail
    refine (HHF.out _ _ _ _ _ _ _ _ _ _ _ _).mono ?_
    rintro e w2 ⟨rfl, hb⟩
    have BN2 := Lib.hid (BN.out.trans (hb.mono BN.out.size))
    have GB := Lib.hid hb
    replace G0 := Lib.hid (G0.out.step hb)
    clear hb x0 x1 x2 x3
    obtain ⟨x0, x1, x2, x3, _⟩ := G0.out.1
    replace BN := Lib.hid BN2.out
    cases ib
    · obtain rfl : sb = false := by simpa using HSB.out
      have HF := Lib.hid (HNO.out (by first | rfl | trivial))
      go_wp2_with fail
      refine (HCL.out _ BN.out).mono ?_
      rintro e w9 ⟨v9, rfl, hi, hb9⟩
      go_wp2_with fail
      exact bodyPost_ret (v := .tuple #[v9, .bool false]) (by simp [results, Tryz.results20, go_sem]) rfl (by unfold CwRet; exact ⟨⟨_, rfl, by rw [HF.out]; exact hi.mono BN.out.size⟩, BN.out.trans (hb9.mono BN.out.size)⟩)
    · go_wp2_with fail
      refine (HIC.out _).mono ?_
      rintro e w3 ⟨rfl, hb⟩
      replace BN := Lib.hid (BN.out.trans (hb.mono BN.out.size))
      replace G0 := Lib.hid (G0.out.step hb)
      have GC := Lib.hid (GB.out.trans (hb.mono GB.out.size))
      clear hb x0 x1 x2 x3 BN2
      obtain ⟨x0, x1, x2, x3, _⟩ := G0.out.1
      cases ic
      · obtain rfl : sb = false := by simpa using HSB.out
        have HF := Lib.hid (HNO.out (by first | rfl | trivial))
        go_wp2_with fail
        refine (HCL.out _ BN.out).mono ?_
        rintro e w9 ⟨v9, rfl, hi, hb9⟩
        go_wp2_with fail
        exact bodyPost_ret (v := .tuple #[v9, .bool false]) (by simp [results, Tryz.results20, go_sem]) rfl (by unfold CwRet; exact ⟨⟨_, rfl, by rw [HF.out]; exact hi.mono BN.out.size⟩, BN.out.trans (hb9.mono BN.out.size)⟩)
      · obtain ⟨hf0, hf1⟩ := HIX.out.1 (by first | rfl | trivial)
        obtain ⟨q, rfl⟩ : ∃ q : Nat, f = q := ⟨f.toNat, by omega⟩
        have hqN : q < rs.length := by omega
        have hc5 := HIC2.out.1 (by first | rfl | trivial)
        have HSB2 := Lib.hid (show sb = !decide (c = atZ xs q) from HSB.out)
        obtain ⟨bx, ox, rfl, hbx, hcx⟩ := seq_at (HV.out.step BN.out) q (by rw [HXL.out]; exact hqN)
        have cq := hcx q (by rw [HXL.out]; exact hqN)
        have q1 : (0 : Int) ≤ q := by omega
        have q2 : (q : Int) < (xs.length : Int) := by rw [HXL.out]; omega
        have HSWQ := Lib.hid (HSW.out q (by first | rfl | trivial) hqN hc5)
        have HYQ := Lib.hid (HY.out q rfl)
        clear hf0 hf1 HSW HY HSB hcx hbx
        by_cases hz : c = atZ xs q
        · obtain rfl : sb = false := by rw [HSB2.out]; simp [hz]
          rw [← hz] at cq
          clear HSB2 hz HSWQ HYQ
          go_wp2_with fail
          have HF := Lib.hid (HNO.out (by first | rfl | trivial))
          go_wp2_with fail
          refine (HCL.out _ BN.out).mono ?_
          rintro e w9 ⟨v9, rfl, hi, hb9⟩
          go_wp2_with fail
          exact bodyPost_ret (v := .tuple #[v9, .bool false]) (by simp [results, Tryz.results20, go_sem]) rfl (by unfold CwRet; exact ⟨⟨_, rfl, by rw [HF.out]; exact hi.mono BN.out.size⟩, BN.out.trans (hb9.mono BN.out.size)⟩)
        · have e1 : (c == atZ xs q) = false := by rw [beq_eq_false_iff_ne]; exact hz
          obtain rfl : sb = true := by rw [HSB2.out]; simp; exact hz
          have HRQ := Lib.hid (HYQ.out (by first | rfl | trivial))
          rw [← HRQ.out] at HSWQ
          clear HSB2 hz HYQ
          generalize atZ xs q = z at *
          go_wp2_with fail
          refine (HSWQ.out _ _ _ _ _ _ _ (G1.out.step GC.out) (G2.out.step GC.out) (G3.out.step GC.out) (G4.out.step GC.out) (HV.out.step BN.out)).mono ?_
          rintro e w4 ⟨v4, rfl, hi, hb⟩
          go_wp2_with fail
          exact bodyPost_ret (v := .tuple #[v4, .bool true]) (by simp [results, Tryz.results20, go_sem]) rfl (by unfold CwRet; exact ⟨⟨_, rfl, hi.mono BN.out.size⟩, BN.out.trans (hb.mono BN.out.size)⟩)
end Go.Proofs.YtibgfbkepkjmbaaGreat
