/-
  Several texts in one: a claim has at most 60 files.
-/
import Derived.Test.YtmcbbjobjogkmabGreatG16

namespace Go.Proofs.YtmcbbjobjogkmabGreat
open Go.RowKit
set_option linter.unusedVariables false
set_option linter.unusedSimpArgs false

set_option maxRecDepth 100000 in
theorem cloneInts (xs : List Int) (v : Value) (w : World) (hv : Seq w v xs) (hlen : xs.length ≤ 1000000) :
    Calls Tryz.prog 47 #[v] w (IntsNew xs w) := by
  obtain ⟨i0, hi0, hz0, hz1, hz2⟩ := info_parts infoInt
  have HA := Lib.hid (fun w2 v2 (h : Seq w2 v2 xs) (g : Nat) (hg : w2.heap[g]? = some (.cells #[] 3 (0, 0))) (hB : w.heap.size ≤ g) => run_append_seq (P := Tryz.prog) (ty := 27) Tryz.underlying27 hi0 hz0 hz1 hz2 hg hB h hlen)
  clear hi0 hz0 hz1 hz2
  have HV := Lib.hid hv
  obtain ⟨A, c, rfl⟩ := seq_form2 hv
  clear hv
  have hnil := fun w => Lib.run_eql_slice_nil (P := Tryz.prog) w 27 3 A xs.length c 0 0 Tryz.underlying27
  cases A with
  | none =>
    have h0 : xs = [] := by
      by_cases hl : xs.length = 0
      · exact List.eq_nil_of_length_eq_zero hl
      · obtain ⟨b, o, hA, _⟩ := seq_at HV.out 0 (by omega)
        cases hA
    subst h0
    simp only [Option.isNone_none, List.length_nil] at hnil
    go_enter Tryz.func47, Tryz.ntmps47
    go_wp2_with fail
    go_ret
    exact ⟨_, rfl, Ints.nil _ _, Below.refl _ _⟩
  | some a =>
    simp only [Option.isNone_some] at hnil
    obtain ⟨v', w', hr, ho, hb⟩ := HA.out _ _ (HV.out.step (Below.refl _ _ |>.alloc (Nat.le_refl _) (.cells #[] 3))) w.heap.size (heap_alloc_new w _) (Nat.le_refl _)
    have HO := Lib.hid ho
    have HB := Lib.hid ((Below.refl _ _ |>.alloc (Nat.le_refl _) (.cells #[] 3)).trans (hb.mono (by simp)))
    clear ho hb
    go_enter Tryz.func47, Tryz.ntmps47
    go_wp2_with (at_builtin; refine wpList_append_run rfl _ _ 27 rfl v' w' hr ?_)
    go_wp2_with fail
    go_ret
    exact ⟨_, rfl, HO.out, HB.out⟩

set_option maxRecDepth 100000 in
set_option maxHeartbeats 1000000 in
theorem implCanFill (v1 v2 v3 v4 vx : Value) (rs : List (List Int)) (ds xs : List Int) (ns ls : List Nd) (B B2 n : Nat) (w : World) (hn : Prs w v1 ns) (hl : Prs w v2 ls) (hf : Faces w B v3 rs) (ha : Ints w B2 v4 ds) (hv : Seq w vx xs) (hk : ds.length = 2 * ls.length) (hd : ls.length ≤ 20) (hN : rs.length ≤ 13) (hxl : xs.length = rs.length) (h0 : 0 < rs.length) (hn6 : n ≤ 6) :
    Calls Tryz.prog 45 #[.agg #[v1, v2, v3, v4], .int .i64 n, vx] w (BoolIs (canB (besM ds ls.length) rs.length n xs) w) := by
  have HWN := Lib.hid (fun W (hb : Below w.heap.size w W) => implWished v1 v2 v3 v4 vx rs ds xs ns ls B B2 n W (hn.step hb) (hl.step hb) (hf.step hb) (ha.step hb) (hv.step hb) hk hd hN hxl h0 hn6)
  unfold WshRet at HWN
  have HFN := Lib.hid (fun hp vb vc Z B us hB w hBw hc => can_gen (besM ds ls.length) (besM_sym _ _) (besM_irr _ _) rs.length n hN hn6 h0 xs hxl hp vb vc Z B us hB w hBw hc)
  have HCPN := Lib.hid (fun h => can_prB (M := besM ds ls.length) (N := rs.length) (n := n) (xs := xs) (besM_sym _ _) (besM_irr _ _) h)
  have HPRN := Lib.hid (prB_iff (M := besM ds ls.length) (N := rs.length) (n := n) (xs := xs))
  generalize besM ds ls.length = M at *
  have H0 := Lib.hid (heldG w v1 v2 v3 v4 61)
  obtain ⟨A, c, rfl⟩ := prs_form2 hn
  obtain ⟨A2, c2, rfl⟩ := prs_form2 hl
  obtain ⟨A3, c3, rfl⟩ := faces_form hf
  obtain ⟨A4, c4, rfl⟩ := ints_form ha
  obtain ⟨A5, c5, rfl⟩ := seq_form2 hv
  clear hn hl hf ha hv hk hxl
  generalize prB M rs.length n xs = PB at *
  generalize canB M rs.length n xs = CB at *
  go_enter Tryz.func45, Tryz.ntmps45
  obtain ⟨x0, x1, x2, x3, _⟩ := H0.out.1
  go_wp2_with fail
  refine (HWN.out _ H0.out.below).mono ?_
  rintro e w2 ⟨hy, hno, hb⟩
  have B2 := Lib.hid (H0.out.below.trans (hb.mono H0.out.below.size))
  have hsz := H0.out.below.size
  clear hb x0 x1 x2 x3
  cases PB
  · obtain rfl := hno rfl
    obtain rfl := HCPN.out (by first | rfl | trivial)
    clear hy hno
    go_wp2_with fail
    go_ret
    exact ⟨rfl, B2.out.alloc B2.out.size _⟩
  · obtain ⟨vb, vc, us, rfl, hcl⟩ := hy rfl
    have HP := HPRN.out.1 (by first | rfl | trivial)
    clear hy hno
    obtain ⟨ab, cb, nb, rfl⟩ : ∃ ab cb nb, vb = .slice ab nb cb := by
      obtain ⟨ab, cb, e, -⟩ := hcl.rows.form; exact ⟨ab, cb, _, e⟩
    obtain ⟨ac, cc, nc, rfl⟩ : ∃ ac cc nc, vc = .slice ac nc cc := by
      obtain ⟨ab, cb, e, -⟩ := hcl.cols.form; exact ⟨ab, cb, _, e⟩
    have C0 := Lib.hid (heldC w2 (.slice ab nb cb) (.slice ac nc cc) (.int .i64 n) 65)
    have HC2 := Lib.hid (hcl.step C0.out.below)
    have B3 := Lib.hid (B2.out.trans (C0.out.below.mono B2.out.size))
    have HFN2 := Lib.hid (HFN.out HP _ _ _ w.heap.size us hsz _ B3.out.size HC2.out)
    clear hcl HP
    obtain ⟨y0, y1, y2, _⟩ := C0.out.1
    go_wp2_with fail
    refine HFN2.out.mono ?_
    rintro e w3 ⟨rfl, hb⟩
    have B4 := Lib.hid (B3.out.trans hb)
    clear hb
    go_wp2_with fail
    go_ret
    exact ⟨rfl, B4.out⟩
end Go.Proofs.YtmcbbjobjogkmabGreat

namespace Go.Proofs.YtmcbbjobjogkmabGreat
open Go.RowKit
set_option linter.unusedVariables false
set_option linter.unusedSimpArgs false

/-- Whether color c may be put on face f of the wishes. -/
noncomputable def mayB (M : Nat → Nat → Bool) (N n : Nat) (xs : List Int) (f : Nat) (c : Nat) : Bool := canB M N n (xs.set f (c : Int))

noncomputable def frcP (M : Nat → Nat → Bool) (N n : Nat) (xs : List Int) (f : Nat) : Bool := decide (atZ xs f = -1) && decide ((fltN (mayB M N n xs f) n).length = 1)

noncomputable def frcL (ns ls : List Nd) (xs : List Int) (a : Int) : List Int := if fwB ns ls xs a = true then fltN (frcP (besM (atW ns ls) ls.length) (wF ns ls).length a.toNat xs) (wF ns ls).length else []

/-- Whether a color but the one in cs was found among the first k. -/
noncomputable def fndB (M : Nat → Nat → Bool) (N n : Nat) (xs cs : List Int) (f k : Nat) : Bool := (List.range k).any fun c => !decide ((c : Int) = atZ cs f) && mayB M N n xs f c

section

variable {M : Nat → Nat → Bool} {N n : Nat} {xs cs : List Int} {f k : Nat}

theorem fndB_zero : fndB M N n xs cs f 0 = false := rfl

theorem fndB_succ : fndB M N n xs cs f (k + 1) = (fndB M N n xs cs f k || (!decide ((k : Int) = atZ cs f) && mayB M N n xs f k)) := by
  unfold fndB; rw [List.range_succ, List.any_append]; simp

theorem fndB_up {j : Nat} (hj : k ≤ j) (h : fndB M N n xs cs f k = true) : fndB M N n xs cs f j = true := by
  unfold fndB at h ⊢
  rw [List.any_eq_true] at h ⊢
  obtain ⟨c, hc, h⟩ := h
  exact ⟨c, by simp at hc ⊢; omega, h⟩

theorem one_iff {p : Nat → Bool} {c0 : Nat} (h0 : c0 < n) (hp : p c0 = true) : (fltN p n).length = 1 ↔ ∀ c, c < n → c ≠ c0 → p c = false := by
  have hm : (c0 : Int) ∈ fltN p n := (fltN_mem p n _).2 ⟨c0, rfl, h0, hp⟩
  constructor
  · intro h c hc hne
    cases e : p c
    · rfl
    · have hm2 : (c : Int) ∈ fltN p n := (fltN_mem p n _).2 ⟨c, rfl, hc, e⟩
      obtain ⟨x, hx⟩ := List.length_eq_one_iff.1 h
      rw [hx] at hm hm2
      simp at hm hm2
      omega
  · intro h
    have hall : ∀ x, x ∈ fltN p n → x = (c0 : Int) := fun x hx => by
      obtain ⟨c, rfl, hc, hpc⟩ := (fltN_mem p n _).1 hx
      by_cases e : c = c0
      · rw [e]
      · rw [h c hc e] at hpc; cases hpc
    have hasc := fltN_asc p n
    match hL : fltN p n with
    | [] => rw [hL] at hm; cases hm
    | [x] => rfl
    | x :: y :: r =>
      rw [hL] at hall hasc
      have h1 := hall x (by simp)
      have h2 := hall y (by simp)
      have := (List.pairwise_cons.1 hasc).1 y (by simp)
      omega

theorem frc_is (hsym : ∀ i j, M i j = M j i) (hirr : ∀ i, M i i = false) (hl : xs.length = N) (hc : canB M N n xs = true) (hf : f < N) (ho : atZ xs f = -1) :
    frcP M N n xs f = !fndB M N n xs (finR M N n xs) f n := by
  have hL := finK_lex hsym hirr hl hc (can_ord hsym hirr hc)
  rw [finR_yes hc]
  generalize finK M N n xs N = cs at *
  obtain ⟨c0, h1, h2⟩ := (hL.1.2 f hf).1
  have hp : mayB M N n xs f c0 = true := canB_iff.2 ⟨cs, hL.1, fun i hi hne => by
    rw [atZ_setI (by omega)] at hne ⊢
    by_cases e : i = f
    · rw [if_pos e, e, h1]
    · rw [if_neg e] at hne ⊢; exact hL.2.1 i hi hne⟩
  unfold frcP
  rw [ho]
  simp only [decide_true, Bool.true_and]
  rw [Bool.eq_iff_iff]
  simp only [decide_eq_true_eq, Bool.not_eq_true']
  rw [one_iff h2 hp]
  unfold fndB
  rw [List.any_eq_false]
  simp only [List.mem_range, h1, Bool.and_eq_true, Bool.not_eq_true', decide_eq_false_iff_not, not_and, Bool.not_eq_true]
  constructor
  · intro h c hc hne; exact h c hc (by omega)
  · intro h c hc hne; exact h c hc (by omega)

theorem frc_no (h : atZ xs f ≠ -1) : frcP M N n xs f = false := by unfold frcP; simp [h]

theorem frc_open (h : atZ xs f = -1) : frcP M N n xs f = decide ((fltN (mayB M N n xs f) n).length = 1) := by unfold frcP; simp [h]

end

theorem frcL_len (ns ls : List Nd) (xs : List Int) (a : Int) : (frcL ns ls xs a).length ≤ 20 := by
  unfold frcL
  split
  · have := fltN_len (frcP (besM (atW ns ls) ls.length) (wF ns ls).length a.toNat xs) (wF ns ls).length
    have := wF_thirteen ns ls; omega
  · simp

theorem frcL_no {ns ls : List Nd} {xs : List Int} {a : Int} (h : fwB ns ls xs a = false) : frcL ns ls xs a = [] := if_neg (by rw [h]; simp)

theorem frcL_yes {ns ls : List Nd} {xs : List Int} {a : Int} (n : Nat) (ha : a = n) (h : fwB ns ls xs a = true) : frcL ns ls xs a = fltN (frcP (besM (atW ns ls) ls.length) (wF ns ls).length n xs) (wF ns ls).length := by unfold frcL; rw [if_pos h, ha]; rfl

theorem fw_wg {ns ls : List Nd} {xs : List Int} {a : Int} (h : fwB ns ls xs a = true) : wgB ns ls xs a = true := by unfold fwB at h; simp at h; exact h.1
end Go.Proofs.YtmcbbjobjogkmabGreat

namespace Go.Proofs.YtmcbbjobjogkmabGreat
open Go.RowKit
set_option linter.unusedVariables false
set_option linter.unusedSimpArgs false

set_option maxRecDepth 100000 in
set_option maxHeartbeats 1000000 in
theorem implIsForced (v1 v2 v3 v4 vx : Value) (rs : List (List Int)) (ds xs : List Int) (ns ls : List Nd) (B B2 n f : Nat) (w : World) (hn : Prs w v1 ns) (hl : Prs w v2 ls) (hf : Faces w B v3 rs) (ha : Ints w B2 v4 ds) (hv : Seq w vx xs) (hk : ds.length = 2 * ls.length) (hd : ls.length ≤ 20) (hN : rs.length ≤ 13) (hxl : xs.length = rs.length) (hfN : f < rs.length) (hn6 : n ≤ 6) :
    Calls Tryz.prog 46 #[.agg #[v1, v2, v3, v4], .int .i64 f, .int .i64 n, vx] w (BoolIs (decide ((fltN (mayB (besM ds ls.length) rs.length n xs f) n).length = 1)) w) := by
  have HCF := Lib.hid (fun (c : Nat) vy W (hb : Below w.heap.size w W) (hy : Seq W vy (xs.set f (c : Int))) => implCanFill v1 v2 v3 v4 vy rs ds (xs.set f (c : Int)) ns ls B B2 n W (hn.step hb) (hl.step hb) (hf.step hb) (ha.step hb) hy hk hd hN (by rw [List.length_set]; exact hxl) (by omega) hn6)
  have HCL := Lib.hid (fun W (hb : Below w.heap.size w W) => cloneInts xs vx W (hv.step hb) (by omega))
  unfold IntsNew at HCL
  have HU := Lib.hid (fun k => cnt_len (mayB (besM ds ls.length) rs.length n xs f) k)
  have HBD := Lib.hid (fun k => fltN_len (mayB (besM ds ls.length) rs.length n xs f) k)
  have HZ := Lib.hid (show ((fltN (mayB (besM ds ls.length) rs.length n xs f) 0).length) = 0 from rfl)
  have HMB := Lib.hid (fun (c : Nat) => (show canB (besM ds ls.length) rs.length n (xs.set f (c : Int)) = mayB (besM ds ls.length) rs.length n xs f c from rfl))
  generalize hL : (fun k => (fltN (mayB (besM ds ls.length) rs.length n xs f) k).length) = CT at *
  have HCT := Lib.hid (fun k => (show (fltN (mayB (besM ds ls.length) rs.length n xs f) k).length = CT k from by rw [← hL])); clear hL
  replace HU := Lib.hid (fun k => by have := HU.out k; rw [HCT.out, HCT.out] at this; exact this)
  replace HBD := Lib.hid (fun k => (show CT k ≤ k from by have := HBD.out k; rw [HCT.out] at this; exact this))
  rw [HCT.out] at HZ ⊢
  clear HCT
  have HH := Lib.hid (fun (c : Nat) vy W hb hy => by have := HCF.out c vy W hb hy; rw [HMB.out] at this; exact this)
  clear HCF HMB
  unfold BoolIs at HH
  generalize mayB (besM ds ls.length) rs.length n xs f = MB at *
  have H0 := Lib.hid (heldG w v1 v2 v3 v4 61)
  obtain ⟨A, c, rfl⟩ := prs_form2 hn
  obtain ⟨A2, c2, rfl⟩ := prs_form2 hl
  obtain ⟨A3, c3, rfl⟩ := faces_form hf
  obtain ⟨A4, c4, rfl⟩ := ints_form ha
  obtain ⟨A5, c5, rfl⟩ := seq_form2 hv
  have HXL := Lib.hid hxl
  have HFN := Lib.hid hfN
  clear hn hl hf ha hv hk hxl hfN
  have HSS := Lib.hid (fun (y z : Int) => (show (xs.set f y).set f z = xs.set f z from List.set_set _))
  have HSL := Lib.hid (fun (y : Int) => (show (xs.set f y).length = xs.length from List.length_set))
  have HSE := Lib.hid (show xs.set f (atZ xs f) = xs from by
    have hfl : f < xs.length := by rw [HXL.out]; exact HFN.out
    have := List.set_getElem_self hfl
    rwa [atZ_get hfl] at this)
  go_enter Tryz.func46, Tryz.ntmps46
  obtain ⟨x0, x1, x2, x3, _⟩ := H0.out.1
  go_wp2_with fail
  refine (HCL.out _ H0.out.below).mono ?_
  rintro e w1 ⟨vy, rfl, hy, hb⟩
  have H1 := Lib.hid (H0.out.step hb)
  obtain ⟨gy, cy, rfl⟩ := hy.some_ (by rw [HXL.out]; have := HFN.out; omega)
  have HY := Lib.hid (show Ints w1 (w.heap.size + 1) (.slice (some ⟨gy, 0, none⟩) xs.length cy) (xs.set f (atZ xs f)) from by rw [HSE.out]; exact hy.mono (by simp))
  have hg := (HY.out.own gy rfl).1
  clear hb hy x0 x1 x2 x3 H0
  go_wp2_with fail
  go_loopw [10, 15] (fun vc vi wr => ∃ (k : Nat) (y : Int), k ≤ n ∧ vi = .int .i64 k ∧ vc = .int .i64 (CT k : Nat) ∧ Ints wr (w.heap.size + 1) (.slice (some ⟨gy, 0, none⟩) xs.length cy) (xs.set f y) ∧ Held w wr [(w.heap.size, 0, .slice A ns.length c), (w.heap.size, 1, .slice A2 ls.length c2), (w.heap.size, 2, .slice A3 rs.length c3), (w.heap.size, 3, .slice A4 ds.length c4)]) (fun _ vi _ => n - (intOf vi).toNat)
  case atStart => exact ⟨0, _, Nat.zero_le _, rfl, by rw [HZ.out]; rfl, HY.out, H1.out⟩
  case round =>
    clear HY H1
    obtain ⟨k, y, hk, rfl, rfl, hy, hh⟩ := hrel
    have HY := Lib.hid hy; clear hy
    have H1 := Lib.hid hh; clear hh
    obtain ⟨x0, x1, x2, x3, _⟩ := H1.out.1
    by_cases hlt : k < n
    · have q1 : (k : Int) < (n : Int) := by omega
      have q0 : (0 : Int) ≤ k := by omega
      have hfx := HFN.out
      have r0 : (0 : Int) ≤ (f : Int) := by omega
      have r1 : (f : Int) < (xs.length : Int) := by rw [HXL.out]; omega
      obtain ⟨t0, t1, t2, -, -⟩ := HY.out.at_ (j := f) (by rw [HSL.out, HXL.out]; exact hfx)
      have HY2 := Lib.hid (HY.out.set_ (HSL.out y).symm f (k : Int))
      rw [HSS.out] at HY2
      have H2 := Lib.hid (show Held w (wr.setCell ⟨gy, f, none⟩ (.int .i64 k)) _ from H1.out.setN (by refine ⟨?_, ?_, ?_, ?_, trivial⟩ <;> (simp; omega)) (by omega))
      have HC := Lib.hid (HH.out k _ _ H2.out.below HY2.out.seq)
      have HUk := Lib.hid (HU.out k)
      have hck := HBD.out k
      clear hfx
      generalize MB k = mb at *
      obtain ⟨ct, hct⟩ : ∃ ct, CT k = ct := ⟨_, rfl⟩
      rw [hct] at HUk hck ⊢
      clear hct
      go_wp2_with fail
      refine HC.out.mono ?_
      rintro e w3 ⟨rfl, hb⟩
      have H3 := Lib.hid (H2.out.step hb)
      have HY3 := Lib.hid (HY2.out.step hb)
      clear hb x0 x1 x2 x3 t0 t1 t2
      cases mb
      · have e1 := HUk.out
        rw [if_neg (by simp)] at e1
        go_wp2_with fail
        exact ⟨⟨k + 1, k, by omega, by go_num, by rw [e1], HY3.out, H3.out⟩, by simp [intOf]; omega⟩
      · have e1 := HUk.out
        rw [if_pos rfl] at e1
        go_wp2_with fail
        exact ⟨⟨k + 1, k, by omega, by go_num, by first | (rw [e1]; done) | (rw [e1]; go_num), HY3.out, H3.out⟩, by simp [intOf]; omega⟩
    · obtain rfl : k = n := by omega
      have hck := HBD.out k
      generalize CT k = ct at *
      go_wp2_with fail
      go_ret
      refine ⟨?_, H1.out.below⟩
      by_cases h1 : ct = 1
      · subst h1; rfl
      · have e1 : ((ct : Int) == 1) = false := by rw [beq_eq_false_iff_ne]; omega
        have e2 : decide (ct = 1) = false := by simp [h1]
        have e3 : decide ((ct : Int) = 1) = false := by simp; omega
        first | (rw [e1, e2]; done) | (rw [e3, e2]; done) | simp [e1, e2, e3, h1]

set_option maxRecDepth 100000 in
set_option maxHeartbeats 2000000 in
theorem implForced (ns ls : List Nd) (xs : List Int) (vn vl v : Value) (a : Int) (w : World) (hn : Prs w vn ns) (hl : Prs w vl ls) (hv : Seq w v xs) :
    Calls Tryz.prog 23 #[.agg #[vn, vl], v, .int .i64 a] w (IntsNew (frcL ns ls xs a) w) := by
  have HWG := Lib.hid (fun w h1 h2 h3 => implWishG ns ls xs vn vl v a w h1 h2 h3)
  unfold GlassL at HWG
  have HCF := Lib.hid (fun (hok : wgB ns ls xs a = true) (n : Nat) (hn : n ≤ 6) v1 v2 v3 v4 vx B w h1 h2 h3 h4 h5 => implCanFill v1 v2 v3 v4 vx (wF ns ls) (gA ns ls) xs (gN ns ls) (gL ns ls) B B n w h1 h2 h3 h4 h5 (g_len ns ls).1 (g_len ns ls).2 (wF_thirteen ns ls) (wg_list hok).2.1 (wg_list hok).2.2.1 hn)
  unfold BoolIs at HCF
  have HIF := Lib.hid (fun (hok : wgB ns ls xs a = true) (n : Nat) (hn : n ≤ 6) (f : Nat) (hf : f < (wF ns ls).length) v1 v2 v3 v4 vx B w h1 h2 h3 h4 h5 => implIsForced v1 v2 v3 v4 vx (wF ns ls) (gA ns ls) xs (gN ns ls) (gL ns ls) B B n f w h1 h2 h3 h4 h5 (g_len ns ls).1 (g_len ns ls).2 (wF_thirteen ns ls) (wg_list hok).2.1 hf hn)
  unfold BoolIs at HIF
  have HN := Lib.hid hn
  have HL := Lib.hid hl
  have HV := Lib.hid hv
  have H0 := Lib.hid (held_pair w vn vl 33)
  obtain ⟨A, c, rfl⟩ := prs_form2 hn
  obtain ⟨A2, c2, rfl⟩ := prs_form2 hl
  obtain ⟨A3, c3, rfl⟩ := seq_form2 hv
  clear hn hl hv
  have HYB := Lib.hid (fun n h1 (h2 : wgB ns ls xs a = true) => (show fwB ns ls xs a = canB (besM (gA ns ls) (gL ns ls).length) (wF ns ls).length n xs from by rw [(gA_whole (wg_list h2).1).1, (gA_whole (wg_list h2).1).2]; exact fwB_yes n h1 h2))
  have HYL := Lib.hid (fun n h1 (h2 : fwB ns ls xs a = true) => (show frcL ns ls xs a = fltN (frcP (besM (gA ns ls) (gL ns ls).length) (wF ns ls).length n xs) (wF ns ls).length from by rw [(gA_whole (wg_list (fw_wg h2)).1).1, (gA_whole (wg_list (fw_wg h2)).1).2]; exact frcL_yes n h1 h2))
  have HBN := Lib.hid (fun h => fwB_no (ns := ns) (ls := ls) (xs := xs) (a := a) h)
  have HLN := Lib.hid (fun h => frcL_no (ns := ns) (ls := ls) (xs := xs) (a := a) h)
  have HIN := Lib.hid (show wgB ns ls xs a = true → ∃ n : Nat, a = n ∧ n ≤ 6 from fun h => by have := wg_parts h; exact ⟨a.toNat, by omega, by omega⟩)
  have HXL := Lib.hid (fun h => (wg_list (ns := ns) (ls := ls) (xs := xs) (a := a) h).2.1)
  have h13 := wF_thirteen ns ls
  have HFO := Lib.hid (fun n f h => frc_open (M := besM (gA ns ls) (gL ns ls).length) (N := (wF ns ls).length) (n := n) (xs := xs) (f := f) h)
  have HFC := Lib.hid (fun n f h => frc_no (M := besM (gA ns ls) (gL ns ls).length) (N := (wF ns ls).length) (n := n) (xs := xs) (f := f) h)
  generalize fwB ns ls xs a = QB at *
  generalize frcL ns ls xs a = QL at *
  generalize wgB ns ls xs a = WG at *
  generalize besM (gA ns ls) (gL ns ls).length = M at *
  generalize gN ns ls = ns' at *
  generalize gL ns ls = ls' at *
  generalize gA ns ls = ds at *
  generalize wF ns ls = rs at *
  obtain ⟨i0, hi, hz0, hz1, hz2⟩ := info_parts infoInt
  have HI := Lib.hid (And.intro hi (And.intro hz0 (And.intro hz1 hz2))); clear hi hz0 hz1 hz2
  go_enter Tryz.func23, Tryz.ntmps23
  obtain ⟨x0, x1, _⟩ := H0.out.1
  go_wp2_with fail
  refine (HWG.out _ (HN.out.step H0.out.below) (HL.out.step H0.out.below) (HV.out.step H0.out.below)).mono ?_
  rintro e w1 ⟨v1, v2, v3, v4, rfl, g1, g2, g3, g4, hb⟩
  have H1 := Lib.hid (H0.out.step hb)
  have hs1 := H1.out.2.1.1
  have GG := Lib.hid (H1.out.new2 w1.heap.size rfl [v1, v2, v3, v4] 61)
  have G0 := Lib.hid (show Held w _ [(w1.heap.size, 0, v1), (w1.heap.size, 1, v2), (w1.heap.size, 2, v3), (w1.heap.size, 3, v4)] from GG.out.only (fun ⟨a, b, c, d, _⟩ => ⟨a, b, c, d, trivial⟩) (fun ⟨a, b, c, d, _⟩ => ⟨a, b, c, d, trivial⟩))
  have bq := below_alloc w1 (.cells #[v1, v2, v3, v4] 61)
  have G1 := Lib.hid (g1.step bq)
  have G2 := Lib.hid (g2.step bq)
  have G3 := Lib.hid (g3.step bq)
  have G4 := Lib.hid (g4.step bq)
  have HB4 := Lib.hid (fun W (h : Below (w1.alloc (.cells #[v1, v2, v3, v4] 61)).heap.size (w1.alloc (.cells #[v1, v2, v3, v4] 61)) W) => And.intro (G1.out.step h) (And.intro (G2.out.step h) (And.intro (G3.out.step h) (G4.out.step h))))
  obtain ⟨A5, c5, rfl⟩ := prs_form2 g1
  obtain ⟨A6, c6, rfl⟩ := prs_form2 g2
  obtain ⟨A7, c7, rfl⟩ := faces_form g3
  obtain ⟨A8, c8, rfl⟩ := ints_form g4
  clear hb g1 g2 g3 g4 x0 x1 bq GG H0 H1
  obtain ⟨x0, x1, x2, x3, _⟩ := G0.out.1
  cases WG
  · have HF := Lib.hid (HBN.out (by first | rfl | trivial))
    have HFL := Lib.hid (HLN.out HF.out)
    have BN := G0.out.below
    have BN := Lib.hid BN
    go_wp2_with fail
    go_ret
    exact ⟨_, rfl, by rw [HFL.out]; exact Ints.nil _ _, BN.out⟩
  · obtain ⟨n, rfl, hn6⟩ := HIN.out (by first | rfl | trivial)
    have HB := Lib.hid (HYB.out n rfl (by first | rfl | trivial))
    replace HXL := Lib.hid (HXL.out (by first | rfl | trivial))
    have HCN := Lib.hid (HCF.out (by first | rfl | trivial) n hn6)
    have HIFN := Lib.hid (HIF.out (by first | rfl | trivial) n hn6)
    have HYLN := Lib.hid (HYL.out n rfl)
    have HFON := Lib.hid (HFO.out n)
    have HFCN := Lib.hid (HFC.out n)
    clear HYB HYL HCF HIF HFO HFC HBN
    rw [← HB.out] at HCN
    generalize canB M rs.length n xs = CB at *
    go_wp2_with fail
    refine (HCN.out _ _ _ _ _ _ _ G1.out G2.out G3.out G4.out (HV.out.step G0.out.below)).mono ?_
    rintro e w2 ⟨rfl, hb⟩
    have G5 := Lib.hid (G0.out.step hb)
    have D5 := Lib.hid hb
    clear hb x0 x1 x2 x3
    cases QB
    · have HFL := Lib.hid (HLN.out (by first | rfl | trivial))
      have BN := Lib.hid G5.out.below
      go_wp2_with fail
      go_ret
      exact ⟨_, rfl, by rw [HFL.out]; exact Ints.nil _ _, BN.out⟩
    · have HQL := Lib.hid (HYLN.out (by first | rfl | trivial))
      clear HYLN HLN HB
      have HU := Lib.hid (fltN_succ (frcP M rs.length n xs))
      have HLE := Lib.hid (fltN_len (frcP M rs.length n xs))
      have HZ := Lib.hid (show fltN (frcP M rs.length n xs) 0 = [] from rfl)
      have HIK := Lib.hid (fun (f : Nat) (hf : f < rs.length) (ho : atZ xs f = -1) v1 v2 v3 v4 vx B w h1 h2 h3 h4 h5 => by have := HIFN.out f hf v1 v2 v3 v4 vx B w h1 h2 h3 h4 h5; rw [← HFON.out f ho] at this; exact this)
      clear HIFN HFON
      generalize frcP M rs.length n xs = FP at *
      generalize fltN FP = X at *
      have HO6 := Lib.hid (Ints.made w2 w2.heap.size (w1.heap.size + 1) rfl (by have := G5.out.2.1.1; omega))
      have G6 := Lib.hid (G5.out.alloc (.cells #[] 3))
      have D6 := Lib.hid (D5.out.trans ((below_alloc w2 (.cells #[] 3)).mono D5.out.size))
      clear G5 D5
      go_wp2_with fail
      go_loopw [9, 31] (fun u vi wr => ∃ k : Nat, k ≤ rs.length ∧ vi = .int .i64 k ∧ Ints wr (w1.heap.size + 1) u (X k) ∧ Below (w1.alloc (.cells #[.slice A5 ns'.length c5, .slice A6 ls'.length c6, .slice A7 rs.length c7, .slice A8 ds.length c8] 61)).heap.size (w1.alloc (.cells #[.slice A5 ns'.length c5, .slice A6 ls'.length c6, .slice A7 rs.length c7, .slice A8 ds.length c8] 61)) wr ∧ Held w wr [(w1.heap.size, 0, .slice A5 ns'.length c5), (w1.heap.size, 1, .slice A6 ls'.length c6), (w1.heap.size, 2, .slice A7 rs.length c7), (w1.heap.size, 3, .slice A8 ds.length c8)]) (fun _ vi _ => rs.length - (intOf vi).toNat)
      case atStart => exact ⟨0, Nat.zero_le _, rfl, by rw [HZ.out]; exact HO6.out, D6.out, G6.out⟩
      case round =>
        clear G6 D6 HO6
        obtain ⟨k, hk, rfl, hown, hd, hh⟩ := hrel
        have HO := Lib.hid hown; clear hown
        have HD := Lib.hid hd; clear hd
        have H1 := Lib.hid hh; clear hh
        obtain ⟨x0, x1, x2, x3, _⟩ := H1.out.1
        by_cases hlt : k < rs.length
        · have q1 : (k : Int) < (xs.length : Int) := by rw [HXL.out]; omega
          have q2 : k < xs.length := by rw [HXL.out]; omega
          have q0 : (0 : Int) ≤ k := by omega
          obtain ⟨b, o, rfl, hbl, hcs⟩ := seq_at (HV.out.step H1.out.below) k (by rw [HXL.out]; exact hlt)
          have z0 := hcs k (by rw [HXL.out]; exact hlt)
          clear hcs hbl
          have HUk := Lib.hid (HU.out k)
          have HFk := Lib.hid (HFCN.out k)
          have HIk := Lib.hid (HIK.out k hlt)
          have hl := HLE.out k
          generalize atZ xs k = x at *
          by_cases ho : x = -1
          · have HIk2 := Lib.hid (HIk.out ho)
            subst ho
            obtain ⟨k1, k2, k3, k4⟩ := HB4.out wr HD.out
            have HC := Lib.hid (HIk2.out _ _ _ _ _ _ wr k1 k2 k3 k4 (HV.out.step H1.out.below))
            clear k1 k2 k3 k4 HFk
            generalize FP k = fp at *
            go_wp2_with fail
            refine HC.out.mono ?_
            rintro e w3 ⟨rfl, hb⟩
            have H3 := Lib.hid (H1.out.step hb)
            have HO3 := Lib.hid (HO.out.step hb)
            have HD3 := Lib.hid (HD.out.trans (hb.mono HD.out.size))
            clear hb x0 x1 x2 x3 H1 HO HD
            cases fp
            · have e1 := HUk.out
              rw [if_neg (by simp)] at e1
              go_wp2_with fail
              exact ⟨⟨k + 1, by omega, by go_num, by rw [e1]; exact HO3.out, HD3.out, H3.out⟩, by simp [intOf]; omega⟩
            · have e1 := HUk.out
              rw [if_pos rfl] at e1
              have E1 := Lib.hid e1; clear e1
              have hsz : w1.heap.size + 1 ≤ w3.heap.size := by have := HD3.out.size; simpa using this
              obtain ⟨au, cu, rfl, -⟩ := HO3.out.form
              obtain ⟨hi, hz0, hz1, hz2⟩ := HI.out
              go_wp2_with (at_builtin; refine wpList_append_own _ rfl _ _ 27 rfl (w1.heap.size + 1) 3 i0 (.int .i64 0) 1 8 Tryz.underlying27 hi hz0 hz1 hz2 rfl (by decide) _ _ _ rfl (World.ownsRow.alloc HO3.out _) ⟨_, 0, none⟩ 1 1 [.int .i64 k] rfl rfl ?c1 ?c2 ?c3 ?c4 ?c5 ?_)
              try (case c1 => exact cell_one_new _ _ _)
              case c2 => simp [Value.oneCell']
              case c3 => unfold maxLen; omega
              case c4 => omega
              case c5 => first | omega | (simp <;> omega)
              intro v' w5 hown hgrow _
              have H4 := Lib.hid (H3.out.stepB (B := w1.heap.size + 1) ⟨by simp, by simp, by simp, by simp, trivial⟩ (grown_below HO3.out hsz hgrow) (by omega))
              have HO4 := Lib.hid (Ints.more hown)
              have HD4 := Lib.hid (HD3.out.trans ((grown_below HO3.out hsz hgrow).mono (by simp)))
              clear hown hgrow hi hz0 hz1 hz2
              go_wp2_with fail
              exact ⟨⟨k + 1, by omega, by go_num, by rw [E1.out]; exact HO4.out, HD4.out, H4.out⟩, by simp [intOf]; omega⟩
          · have e1 : (x == -1) = false := by rw [beq_eq_false_iff_ne]; exact ho
            have e2 : decide (x = -1) = false := by simp [ho]
            have HE := Lib.hid (show X (k + 1) = X k from by rw [HUk.out, HFk.out ho]; rfl)
            clear ho
            go_wp2_with fail
            exact ⟨⟨k + 1, by omega, by go_num, by rw [HE.out]; exact HO.out, HD.out, H1.out⟩, by simp [intOf]; omega⟩
        · have q1 : ¬ (k : Int) < (xs.length : Int) := by rw [HXL.out]; omega
          have q2 : ¬ k < xs.length := by rw [HXL.out]; omega
          obtain rfl : k = rs.length := by omega
          go_wp2_with fail
          go_ret
          exact ⟨_, rfl, by rw [HQL.out]; exact HO.out.mono (by omega), H1.out.below⟩
end Go.Proofs.YtmcbbjobjogkmabGreat

namespace Go.Proofs.YtmcbbjobjogkmabGreat
open Go.RowKit
set_option linter.unusedVariables false
set_option linter.unusedSimpArgs false

set_option maxRecDepth 100000 in
set_option maxHeartbeats 1000000 in
theorem specForced (ns ls : List Nd) (xs : List Int) (vn vl v : Value) (a : Int) (w : World) (hn : Prs w vn ns) (hl : Prs w vl ls) (hv : Seq w v xs) :
    Calls Tryz.prog 22 #[.agg #[vn, vl], v, .int .i64 a] w (IntsNew (frcL ns ls xs a) w) := by
  have HFW := Lib.hid (fun w h1 h2 h3 => specFill ns ls xs vn vl v a w h1 h2 h3)
  unfold CwRet at HFW
  have HM := Lib.hid (fun w h1 h2 (hh : wholeB ns ls = true) => specMat ns ls vn vl w h1 h2 hh)
  unfold MatNew at HM
  have HA := Lib.hid (fun (n : Nat) (hn : n ≤ 6) (ys : List Int) (hgl : ys.length = (wF ns ls).length) am cm g vg vx B w h1 h2 h3 => specSrchA (besM (atW ns ls) ls.length) (besM_sym (atW ns ls) ls.length) (wF ns ls).length n (wF_thirteen ns ls) hn am cm g ys vg hgl (wF ns ls).length [] vx B w (by simp) h1 h2 h3)
  unfold SrchRet at HA
  have HSO := Lib.hid (fun n (ys : List Int) h1 h2 => (srch_any (M := besM (atW ns ls) ls.length) (N := (wF ns ls).length) (n := n) (xs := ys) (besM_sym (atW ns ls) ls.length) (besM_irr _ _) h1 h2).1)
  have HN := Lib.hid hn
  have HL := Lib.hid hl
  have HV := Lib.hid hv
  have H00 := Lib.hid (held_pair w vn vl 33)
  obtain ⟨A, c, rfl⟩ := prs_form2 hn
  obtain ⟨A2, c2, rfl⟩ := prs_form2 hl
  obtain ⟨A3, c3, rfl⟩ := seq_form2 hv
  clear hn hl hv
  have HNO := Lib.hid (fun h => frcL_no (ns := ns) (ls := ls) (xs := xs) (a := a) h)
  have HYL := Lib.hid (fun n h1 h2 => frcL_yes (ns := ns) (ls := ls) (xs := xs) (a := a) n h1 h2)
  have HPT := Lib.hid (fun (h : fwB ns ls xs a = true) => wg_list (fw_wg h))
  have HFWL := Lib.hid (fun (n : Nat) (h1 : a = n) (h : fwB ns ls xs a = true) => (show fwL ns ls xs a = finR (besM (atW ns ls) ls.length) (wF ns ls).length n xs ∧ canB (besM (atW ns ls) ls.length) (wF ns ls).length n xs = true from ⟨fwL_yes n h1 (fw_wg h), by rw [← fwB_yes n h1 (fw_wg h)]; exact h⟩))
  have HIN := Lib.hid (show fwB ns ls xs a = true → ∃ n : Nat, a = n ∧ n ≤ 6 from fun h => by have := wg_parts (fw_wg h); exact ⟨a.toNat, by omega, by omega⟩)
  have HIS := Lib.hid (fun n f h1 h2 h3 h4 => frc_is (M := besM (atW ns ls) ls.length) (N := (wF ns ls).length) (n := n) (xs := xs) (f := f) (besM_sym (atW ns ls) ls.length) (besM_irr _ _) h1 h2 h3 h4)
  have h13 := wF_thirteen ns ls
  generalize fwB ns ls xs a = QB at *
  generalize fwL ns ls xs a = cs at *
  generalize frcL ns ls xs a = QL at *
  generalize besM (atW ns ls) ls.length = M at *
  generalize (wF ns ls).length = N at *
  generalize wholeB ns ls = wh at *
  have H0 := Lib.hid (H00.out.alloc (.cells #[] 3))
  have HX0 := Lib.hid (Ints.made (w.alloc (.cells #[.slice A ns.length c, .slice A2 ls.length c2] 33)) (w.heap.size + 1) (w.heap.size + 1) (by simp) (Nat.le_refl _))
  obtain ⟨i0, hi, hz0, hz1, hz2⟩ := info_parts infoInt
  have HI := Lib.hid (And.intro hi (And.intro hz0 (And.intro hz1 hz2))); clear hi hz0 hz1 hz2 H00
  go_enter Tryz.func22, Tryz.ntmps22
  obtain ⟨x0, x1, _⟩ := H0.out.1
  go_wp2_with fail
  refine (HFW.out _ (HN.out.step H0.out.below) (HL.out.step H0.out.below) (HV.out.step H0.out.below)).mono ?_
  rintro e w1 ⟨⟨vc, rfl, hc⟩, hb⟩
  have H1 := Lib.hid (H0.out.step hb)
  have HX1 := Lib.hid (HX0.out.step hb)
  have HC1 := Lib.hid (hc.mono (b' := 0) (Nat.zero_le _))
  have KC0 := Lib.hid (fun p e => hc.own p e)
  clear hb hc x0 x1 H0 HX0
  obtain ⟨x0, x1, _⟩ := H1.out.1
  cases QB
  · have HF := Lib.hid (HNO.out (by first | rfl | trivial))
    go_wp2_with fail
    go_ret
    exact ⟨_, rfl, by rw [HF.out]; exact HX1.out.mono (Nat.le_succ _), H1.out.below⟩
  · obtain ⟨n, rfl, hn6⟩ := HIN.out (by first | rfl | trivial)
    obtain ⟨hwh, hxl, hpos, hlow⟩ := HPT.out (by first | rfl | trivial)
    obtain ⟨hcs, hcan⟩ := HFWL.out n rfl (by first | rfl | trivial)
    have HXL := Lib.hid hxl
    have HQL := Lib.hid (HYL.out n rfl (by first | rfl | trivial))
    have HISN := Lib.hid (fun f hf ho => HIS.out n f hxl hcan hf ho)
    rw [← hcs] at HISN
    have HCSL := Lib.hid (show cs.length = N from by rw [hcs, finR_yes hcan, finK_len, hxl])
    have HLOW := Lib.hid hlow
    have HAN := Lib.hid (fun f (y : Nat) => HA.out n hn6 (xs.set f (y : Int)) (by rw [List.length_set, hxl]))
    have HSN := Lib.hid (fun f (y : Nat) => HSO.out n (xs.set f (y : Int)) (by rw [List.length_set, hxl]) (fun i hi => by
      by_cases hfx : f < xs.length
      · rw [atZ_setI hfx]
        split
        · omega
        · exact hlow i hi
      · rw [List.set_eq_of_length_le (by omega)]; exact hlow i hi))
    have HWH := Lib.hid hwh
    clear hwh hxl hpos hlow hcs hcan HPT HFWL HYL HIS HA HSO HNO HIN
    have HCAN := Lib.hid (fun f (y : Nat) => (show canB M N n (xs.set f (y : Int)) = mayB M N n xs f y from rfl))
    have HAM := Lib.hid (fun f (y : Nat) am cm g vg vx B w h1 h2 h3 => (show Calls Tryz.prog 31 #[.slice am N cm, vg, .int .i64 n, vx] w (fun e w' => (∃ v, e = .returned (.tuple #[v, .bool (mayB M N n xs f y)])) ∧ Below w.heap.size w w') from (HAN.out f y am cm g vg vx B w h1 h2 h3).mono fun e w' h => ⟨h.1.elim fun v hv => ⟨v, by rw [hv.1, HSN.out, HCAN.out]⟩, h.2⟩))
    clear HAN HSN HCAN
    have HFC := Lib.hid (fun f h => frc_no (M := M) (N := N) (n := n) (xs := xs) (f := f) h)
    have HFZ := Lib.hid (fun f => fndB_zero (M := M) (N := N) (n := n) (xs := xs) (cs := cs) (f := f))
    have HFS := Lib.hid (fun f k => fndB_succ (M := M) (N := N) (n := n) (xs := xs) (cs := cs) (f := f) (k := k))
    have HFU := Lib.hid (fun f k (hk : k ≤ n) h => fndB_up (M := M) (N := N) (n := n) (xs := xs) (cs := cs) (f := f) (k := k) (j := n) hk h)
    have HU := Lib.hid (fltN_succ (frcP M N n xs))
    have HLE := Lib.hid (fltN_len (frcP M N n xs))
    have HZ := Lib.hid (show fltN (frcP M N n xs) 0 = [] from rfl)
    generalize frcP M N n xs = FP at *
    generalize fltN FP = X at *
    generalize mayB M N n xs = MB at *
    generalize fndB M N n xs cs = FD at *
    have HSS := Lib.hid (fun f (y : Int) => (show (xs.set f y).length = xs.length from List.length_set))
    go_wp2_with fail
    refine (HM.out _ (HN.out.step H1.out.below) (HL.out.step H1.out.below) HWH.out).mono ?_
    rintro e w2 ⟨vm, g, rfl, hm, hb⟩
    have H2 := Lib.hid (H1.out.step hb)
    have HX2 := Lib.hid (show Ints w2 (w.heap.size + 1) _ (X 0) from by rw [HZ.out]; exact HX1.out.step hb)
    have HC2 := Lib.hid (HC1.out.step hb)
    have HM2 := Lib.hid (hm.mono (b' := 0) (Nat.zero_le _))
    obtain ⟨am, cm, rfl, -⟩ := hm.form
    have hbs := hb.size
    have D2 := Lib.hid H2.out.below
    clear hm hb x0 x1 H1 HX1 HC1
    obtain ⟨ac, cc, rfl, -⟩ := HC2.out.form
    rw [HCSL.out] at HC2 KC0 ⊢
    have hsb := hbs
    have KC := Lib.hid (show ∀ p, (Value.slice ac N cc).ownBlock = some p → w.heap.size + 1 < p ∧ p < w2.heap.size from fun p e => by have := KC0.out p e; simp at this; omega)
    have HK2 := Lib.hid (show ∀ p, (Value.slice (some ⟨w.heap.size + 1, 0, none⟩) 0 0).ownBlock = some p → p = w.heap.size + 1 ∨ w2.heap.size ≤ p from fun p e => by simp [Value.ownBlock] at e; omega)
    clear hsb KC0 D2 hbs
    go_wp2_with fail
    go_loopw [7, 11] (fun u vi wr => ∃ k : Nat, k ≤ N ∧ vi = .int .i64 k ∧ Ints wr (w.heap.size + 1) u (X k) ∧ Ints wr 0 (.slice ac N cc) cs ∧ MatG wr 0 (.slice am N cm) g N N M ∧ (∀ p, u.ownBlock = some p → p = w.heap.size + 1 ∨ w2.heap.size ≤ p) ∧ w2.heap.size ≤ wr.heap.size ∧ Held w wr [(w.heap.size, 0, .slice A ns.length c), (w.heap.size, 1, .slice A2 ls.length c2)]) (fun _ vi _ => N - (intOf vi).toNat)
    case atStart => exact ⟨0, Nat.zero_le _, rfl, HX2.out, HC2.out, HM2.out, HK2.out, Nat.le_refl _, H2.out⟩
    case round =>
      clear H2 HX2 HC2 HM2 HK2
      obtain ⟨k, hk, rfl, hown, hcq, hmm, hkk, hzz, hh⟩ := hrel
      have HK := Lib.hid hkk; clear hkk
      have HO := Lib.hid hown; clear hown
      have HC := Lib.hid hcq; clear hcq
      have HM := Lib.hid hmm; clear hmm
      have H1 := Lib.hid hh; clear hh
      by_cases hlt : k < N
      · have q1 : (k : Int) < (xs.length : Int) := by rw [HXL.out]; omega
        have q2 : k < xs.length := by rw [HXL.out]; omega
        have q0 : (0 : Int) ≤ k := by omega
        obtain ⟨b, o, rfl, hbl, hcs⟩ := seq_at (HV.out.step H1.out.below) k (by rw [HXL.out]; exact hlt)
        have z0 := hcs k (by rw [HXL.out]; exact hlt)
        clear hcs hbl
        have HUk := Lib.hid (HU.out k)
        have HFk := Lib.hid (HFC.out k)
        have HIk := Lib.hid (HISN.out k hlt)
        have HLk := Lib.hid (HLOW.out k hlt)
        have HAk := Lib.hid (HAM.out k)
        have HFZk := Lib.hid (HFZ.out k)
        have HFSk := Lib.hid (HFS.out k)
        have HFUk := Lib.hid (HFU.out k)
        have HSSk := Lib.hid (HSS.out k)
        have hl := HLE.out k
        have HB0 := Lib.hid H1.out.below
        generalize hxk : atZ xs k = x at *
        by_cases ho : x ≥ 0
        · have HE := Lib.hid (show X (k + 1) = X k from by rw [HUk.out, HFk.out (by omega)]; rfl)
          clear HIk HFk hxk
          go_wp2_with fail
          exact ⟨⟨k + 1, by omega, by go_num, by rw [HE.out]; exact HO.out, HC.out, HM.out, HK.out, hzz, H1.out⟩, by simp [intOf]; omega⟩
        · have hx1 : x = -1 := by have := HLk.out; omega
          subst hx1
          have HIx := Lib.hid (HIk.out (by first | rfl | trivial))
          clear HIk HFk HLk hxk
          generalize FP k = fp at *
          generalize MB k = MBk at *
          generalize FD k = FDk at *
          have HV1 := Lib.hid (HV.out.step H1.out.below)
          go_wp2_with fail
          go_loopw [12, 13] (fun vf vi wq => ∃ q : Nat, q ≤ n ∧ vi = .int .i64 q ∧ vf = .bool (FDk q) ∧ Below wr.heap.size wr wq) (fun vf vi _ => n - (intOf vi).toNat)
          case atStart => exact ⟨0, Nat.zero_le _, rfl, by rw [HFZk.out], Below.refl _ _⟩
          case round =>
            obtain ⟨q, hq, rfl, rfl, hbq⟩ := hrel
            have HBQ := Lib.hid hbq; clear hbq
            have HFU1 := Lib.hid (HFUk.out q hq)
            have HFS1 := Lib.hid (HFSk.out q)
            have HAq := Lib.hid (HAk.out q)
            have H2 := Lib.hid (H1.out.step HBQ.out)
            have HO2 := Lib.hid (HO.out.step HBQ.out)
            have HM2 := Lib.hid (HM.out.step HBQ.out)
            have HC2 := Lib.hid (HC.out.step HBQ.out)
            have HV2 := Lib.hid (HV1.out.step HBQ.out)
            by_cases hend : q < n ∧ FDk q = false
            · obtain ⟨hqn, hfd⟩ := hend
              rw [hfd] at HFS1 ⊢
              clear hfd HFU1
              have q3 : (q : Int) < (n : Int) := by omega
              have q4 : (0 : Int) ≤ q := by omega
              have q5 : (k : Int) < (N : Int) := by omega
              obtain ⟨bc, oc, hac, hbl, hcs⟩ := seq_at (show Seq wr (.slice ac cs.length cc) cs from by rw [HCSL.out]; exact HC2.out.seq) k (by rw [HCSL.out]; exact hlt)
              subst hac
              have z1 := hcs k (by rw [HCSL.out]; exact hlt)
              clear hcs hbl
              generalize atZ cs k = cx at *
              by_cases he : (q : Int) = cx
              · subst he
                have HF1 := Lib.hid (show FDk (q + 1) = false from by rw [HFS1.out]; simp)
                go_wp2_with fail
                exact ⟨⟨q + 1, by omega, by go_num, by rw [HF1.out], HBQ.out⟩, by simp [intOf]; omega⟩
              · have e1 : ((q : Int) == cx) = false := by rw [beq_eq_false_iff_ne]; exact he
                have e2 : decide ((q : Int) = cx) = false := by simp [he]
                have e3 : ((q : Int) != cx) = true := by simp [he]
                have HF1 := Lib.hid (show FDk (q + 1) = MBk q from by rw [HFS1.out, e2]; simp)
                clear HFS1 he
                generalize MBk q = mb at *
                obtain ⟨hi, hz0, hz1, hz2⟩ := HI.out
                obtain ⟨v', w', hr, ho, hbb⟩ := run_append_seq (P := Tryz.prog) (ty := 27) (B := wr.heap.size) Tryz.underlying27 hi hz0 hz1 hz2 (heap_alloc_new wr (.cells #[] 3)) (Nat.le_refl _) (HV2.out.step (below_alloc wr (.cells #[] 3))) (by rw [HXL.out]; omega)
                have HB3 := Lib.hid ((below_alloc wr (.cells #[] 3)).trans (hbb.mono (by simp)))
                obtain ⟨gf, cf, rfl⟩ := ho.some_ (by omega)
                have HO3 := Lib.hid ho
                have hgf := (ho.own gf rfl).1
                obtain ⟨t0, t1, t2, -, -⟩ := HO3.out.at_ (j := k) q2
                have HO4 := Lib.hid ((ho.set_ rfl k (q : Int)))
                clear ho hbb hi hz0 hz1 hz2
                go_wp2_with (at_builtin; refine wpList_append_run rfl _ _ 27 rfl _ w' hr ?_)
                go_wp2_with fail
                have HB5 := Lib.hid (below_setCell (p := ⟨gf, k, none⟩) (x := .int .i64 q) HB3.out hgf)
                have HM5 := Lib.hid ((HM2.out.step HB5.out).step (below_alloc (w'.setCell ⟨gf, k, none⟩ (.int .i64 q)) (.cells #[] 3)))
                have HO5 := Lib.hid (HO4.out.seq.step (below_alloc (w'.setCell ⟨gf, k, none⟩ (.int .i64 q)) (.cells #[] 3)))
                have HX5 := Lib.hid (Ints.made (w'.setCell ⟨gf, k, none⟩ (.int .i64 q)) w'.heap.size w'.heap.size (by simp) (Nat.le_refl _))
                have HB6 := Lib.hid (HB5.out.trans ((below_alloc (w'.setCell ⟨gf, k, none⟩ (.int .i64 q)) (.cells #[] 3)).mono HB5.out.size))
                refine (HAq.out am cm g _ _ _ _ HM5.out HO5.out HX5.out).mono ?_
                rintro e w6 ⟨⟨v6, rfl⟩, hb⟩
                have HB7 := Lib.hid (HBQ.out.trans ((HB6.out.trans (hb.mono HB6.out.size)).mono HBQ.out.size))
                clear hb t0 t1 t2 z0 z1
                go_wp2_with fail
                exact ⟨⟨q + 1, by omega, by go_num, by rw [HF1.out], HB7.out⟩, by simp [intOf]; omega⟩
            · by_cases hfd : FDk q = true
              · have hfn := HFU1.out hfd
                have HE := Lib.hid (show X (k + 1) = X k from by rw [HUk.out, HIx.out, hfn]; rfl)
                rw [hfd]
                clear hfd hend hfn HFS1 HAq HIx
                by_cases hqn : q < n
                · have q3 : (q : Int) < (n : Int) := by omega
                  go_wp2_with fail
                  exact ⟨⟨k + 1, by omega, by go_num, by rw [HE.out]; exact HO2.out, HC2.out, HM2.out, HK.out, Nat.le_trans hzz HBQ.out.size, H2.out⟩, by simp [intOf]; omega⟩
                · have q3 : ¬ (q : Int) < (n : Int) := by omega
                  go_wp2_with fail
                  exact ⟨⟨k + 1, by omega, by go_num, by rw [HE.out]; exact HO2.out, HC2.out, HM2.out, HK.out, Nat.le_trans hzz HBQ.out.size, H2.out⟩, by simp [intOf]; omega⟩
              · have hfd : FDk q = false := by simpa using hfd
                obtain rfl : q = n := by
                  by_cases e : q < n
                  · exact absurd ⟨e, hfd⟩ hend
                  · omega
                have HE := Lib.hid (show X (k + 1) = X k ++ [(k : Int)] from by rw [HUk.out, HIx.out, hfd]; rfl)
                rw [hfd]
                clear hfd hend HFS1 HAq HIx HFU1 z0
                have q3 : ¬ (q : Int) < (q : Int) := by omega
                have hsz : w.heap.size + 1 ≤ wr.heap.size := by have := H2.out.2.1.1; omega
                have hcz := Nat.le_trans hzz HBQ.out.size
                obtain ⟨au, cu, rfl, -⟩ := HO2.out.form
                obtain ⟨hi, hz0, hz1, hz2⟩ := HI.out
                go_wp2_with (at_builtin; refine wpList_append_own_at _ rfl _ _ 27 rfl (w.heap.size + 1) 3 i0 (.int .i64 0) 1 8 Tryz.underlying27 hi hz0 hz1 hz2 rfl (by decide) _ _ _ rfl (World.ownsRow.alloc HO2.out _) ⟨_, 0, none⟩ 1 1 [.int .i64 k] rfl rfl ?c1 ?c2 ?c3 ?c4 ?c5 ?_)
                try (case c1 => exact cell_one_new _ _ _)
                case c2 => simp [Value.oneCell']
                case c3 => unfold maxLen; omega
                case c4 => omega
                case c5 => first | omega | (simp <;> omega)
                intro v' w5 hown hgrow _ hat
                have H4 := Lib.hid (H2.out.stepB (B := w.heap.size + 1) ⟨by simp, by simp, trivial⟩ (grown_below HO2.out hsz hgrow) (by omega))
                have HO4 := Lib.hid (Ints.more hown)
                have HM4 := Lib.hid ((HM2.out.step (below_alloc wr (.cells #[.int .i64 k] 3))).grownI (HO2.out.step (below_alloc wr (.cells #[.int .i64 k] 3))) hgrow)
                have HC4 := Lib.hid ((HC2.out.step (below_alloc wr (.cells #[.int .i64 k] 3))).grown hgrow (fun p e e2 => by have h1 := HK.out p e2; have h2 := KC.out p e; omega))
                have HK4 := Lib.hid (show ∀ p, v'.ownBlock = some p → p = w.heap.size + 1 ∨ w2.heap.size ≤ p from fun p e => by
                  rcases hat with h | h
                  · rw [h] at e; exact HK.out p e
                  · rw [h] at e; simp at e; omega)
                have hz4 : w2.heap.size ≤ w5.heap.size := by have := hgrow.size; simp at this; omega
                clear hown hgrow hat hi hz0 hz1 hz2
                go_wp2_with fail
                exact ⟨⟨k + 1, by omega, by go_num, by rw [HE.out]; exact HO4.out, HC4.out, HM4.out, HK4.out, hz4, H4.out⟩, by simp [intOf]; omega⟩
      · have q1 : ¬ (k : Int) < (xs.length : Int) := by rw [HXL.out]; omega
        have q2 : ¬ k < xs.length := by rw [HXL.out]; omega
        obtain rfl : k = N := by omega
        go_wp2_with fail
        go_ret
        exact ⟨_, rfl, by rw [HQL.out]; exact HO.out.mono (Nat.le_succ _), H1.out.below⟩
end Go.Proofs.YtmcbbjobjogkmabGreat
