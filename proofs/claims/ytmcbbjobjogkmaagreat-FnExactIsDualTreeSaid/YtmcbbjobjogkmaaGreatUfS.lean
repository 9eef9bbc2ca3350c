/-
  Trees of leads, of the model: groups by their numbers.
-/
import Derived.Test.YtmcbbjobjogkmaaGreatUfP
import Derived.Test.YtmcbbjobjogkmaaGreatWhole
import Derived.Test.YtmcbbjobjogkmaaGreatG1
import Derived.Test.YtmcbbjobjogkmaaGreatG2
import Derived.Test.YtmcbbjobjogkmaaGreatGlsP
namespace Go.Proofs.YtmcbbjobjogkmaaGreat
open Go.RowKit
set_option linter.unusedVariables false
set_option linter.unusedSimpArgs false

theorem Turn.put1 {g k : Nat} (W : World) (x : Value) : Turn g (g + 1) W (W.setCell ⟨g, k, none⟩ x) :=
  ⟨rfl, rfl, rfl, by rw [heap_setCell_size]; exact Nat.le_refl _, fun i hi h => Below.heap_setCell _ _ _ _ (by show i ≠ g; omega)⟩

set_option maxRecDepth 100000 in
theorem specGroups (n : Nat) (w : World) (hn : n ≤ 1000) :
    Calls Tryz.prog 51 #[.int .i64 n] w (IntsNew (numL n) w) := by
  have HZ := Lib.hid (show numL 0 = [] from rfl)
  have HST := Lib.hid numL_succ
  have HLN := Lib.hid numL_len
  generalize numL = X at *
  obtain ⟨i0, hi, hz0, hz1, hz2⟩ := info_parts infoInt
  have HI := Lib.hid (And.intro hi (And.intro hz0 (And.intro hz1 hz2))); clear hi hz0 hz1 hz2
  go_enter Tryz.func51, Tryz.ntmps51
  go_wp2_with fail
  go_loopw [3, 4] (fun v i wr => ∃ k : Nat, k ≤ n ∧ i = .int .i64 k ∧ Ints wr w.heap.size v (X k) ∧ Below w.heap.size w wr) (fun _ i _ => n - (intOf i).toNat)
  case atStart => exact ⟨0, Nat.zero_le _, rfl, by rw [HZ.out]; exact Ints.made _ _ _ rfl (Nat.le_refl _), (Below.refl _ _).alloc (Nat.le_refl _) _⟩
  case round =>
    obtain ⟨k, hk, rfl, hown, hb⟩ := hrel
    have HO := Lib.hid hown; clear hown
    have HB := Lib.hid hb; clear hb
    have hsz := HB.out.size
    by_cases hlt : k < n
    · have p1 : (k : Int) < (n : Int) := by omega
      have p2 : (0 : Int) ≤ k := by omega
      have hll : (X k).length ≤ 1000 := by rw [HLN.out]; omega
      obtain ⟨hi, hz0, hz1, hz2⟩ := HI.out
      go_wp2_with (at_builtin; refine wpList_append_own _ rfl _ _ 26 rfl w.heap.size 3 i0 (.int .i64 0) 1 8 Tryz.underlying26 hi hz0 hz1 hz2 rfl (by decide) _ _ _ rfl (World.ownsRow.alloc HO.out _) ⟨_, 0, none⟩ 1 1 [.int .i64 k] rfl rfl ?c1 ?c2 ?c3 ?c4 ?c5 ?_)
      try (case c1 => exact cell_one_new _ _ _)
      case c2 => simp [Value.oneCell']
      case c3 => unfold maxLen; omega
      case c4 => omega
      case c5 => first | omega | (simp <;> omega)
      intro v' w5 hown hgrow _
      have HB2 := Lib.hid (HB.out.trans (grown_below HO.out hsz hgrow))
      have HO2 := Lib.hid (Ints.more hown); clear hown hgrow
      go_wp2_with fail
      exact ⟨⟨k + 1, by omega, by go_num, by rw [HST.out]; exact HO2.out, HB2.out⟩, by simp [intOf]; omega⟩
    · obtain rfl : k = n := by omega
      go_wp2_with fail
      go_ret
      exact ⟨_, rfl, HO.out, HB.out⟩

set_option maxRecDepth 100000 in
set_option maxHeartbeats 4000000 in
theorem specJoin (G : List Int) (a b B g c N : Nat) (w : World) (hv : Ints w B (.slice (some ⟨g, 0, none⟩) N c) G) (hN : G.length = N) (ha : a < N) (hb : b < N) (h40 : N ≤ 1000) :
    Calls Tryz.prog 52 #[.slice (some ⟨g, 0, none⟩) N c, .int .i64 a, .int .i64 b] w (fun e w' => e = .returned (.bool (atZ G a != atZ G b)) ∧ Ints w' B (.slice (some ⟨g, 0, none⟩) N c) (jnL G a b) ∧ Turn g (g + 1) w w') := by
  have HV := Lib.hid hv; clear hv
  have HN := Lib.hid hN
  have HJ := Lib.hid (show jnL G a b = if atZ G a = atZ G b then G else G.map fun x => if x = atZ G b then atZ G a else x from rfl)
  obtain ⟨x0, x1, x2, -, -⟩ := HV.out.at_ (j := a) (by omega)
  obtain ⟨y0, y1, -, -, -⟩ := HV.out.at_ (j := b) (by omega)
  have HEND := Lib.hid (jnK_end G (atZ G a) (atZ G b))
  have HZ := Lib.hid (jnK_zero G (atZ G a) (atZ G b))
  have HAT := Lib.hid (fun k (h : k < G.length) => jnK_at h (atZ G a) (atZ G b))
  have HSU := Lib.hid (fun k (h : k < G.length) => jnK_succ h (atZ G a) (atZ G b))
  have HSM := Lib.hid (fun k (h : k < G.length) => jnK_same h (atZ G a) (atZ G b))
  have HLN := Lib.hid (jnK_len G (atZ G a) (atZ G b))
  have HAZ := Lib.hid (fun k => (show atZ G k = atZ G k from rfl))
  generalize jnL G a b = R at *
  generalize jnK G (atZ G a) (atZ G b) = X at *
  generalize atZ G a = u at *
  generalize atZ G b = v at *
  have p1 : (0 : Int) ≤ a := by omega
  have p2 : (a : Int) < (N : Int) := by omega
  have p3 : (0 : Int) ≤ b := by omega
  have p4 : (b : Int) < (N : Int) := by omega
  have p5 : (0 : Int) < (N : Int) := by omega
  have p6 : 0 < N := by omega
  go_enter Tryz.func52, Tryz.ntmps52
  by_cases huv : u = v
  · subst huv
    have HR := Lib.hid (show R = G from by rw [HJ.out, if_pos rfl])
    clear HJ
    have e1 : (u != u) = false := by simp
    go_wp2_with fail
    go_loopw [9] (fun i wr => i = .int .i64 0 ∧ wr = w) (fun _ _ => 0)
    case atStart => exact ⟨rfl, rfl⟩
    case round =>
      obtain ⟨rfl, rfl⟩ := hrel
      go_wp2_with fail
      go_ret
      exact ⟨by simp, by rw [HR.out]; exact HV.out, Turn.of_below (Below.refl _ _)⟩
  · have HR := Lib.hid (show R = X N from by rw [HJ.out, if_neg huv, ← HEND.out, HN.out])
    clear HJ HEND
    have e1 : (u != v) = true := by simp [huv]
    have e2 : (u == v) = false := by rw [beq_eq_false_iff_ne]; exact huv
    have HUV := Lib.hid huv; clear huv
    go_wp2_with fail
    go_loopw [9] (fun i wr => ∃ k : Nat, k ≤ N ∧ i = .int .i64 k ∧ Ints wr B (.slice (some ⟨g, 0, none⟩) N c) (X k) ∧ Turn g (g + 1) w wr) (fun i _ => N - (intOf i).toNat)
    case atStart => exact ⟨0, Nat.zero_le _, rfl, by rw [HZ.out]; exact HV.out, Turn.of_below (Below.refl _ _)⟩
    case round =>
      clear x0 x1 x2 y0 y1
      obtain ⟨k, hk, rfl, hi, ht⟩ := hrel
      have HI := Lib.hid hi; clear hi
      have HT := Lib.hid ht; clear ht
      by_cases hlt : k < N
      · have q1 : (0 : Int) ≤ k := by omega
        have q2 : (k : Int) < (N : Int) := by omega
        obtain ⟨x0, x1, x2, -, -⟩ := HI.out.at_ (j := k) (by rw [HLN.out, HN.out]; exact hlt)
        have hGk : k < G.length := by have := HN.out; omega
        rw [HAT.out k hGk] at x0
        have HS := Lib.hid (HSU.out k hGk)
        have HM := Lib.hid (HSM.out k hGk)
        clear hGk
        generalize atZ G k = z at *
        by_cases hz : z = v
        · subst hz
          have HS2 := Lib.hid (show X (k + 1) = (X k).set k u from by rw [HS.out, if_pos rfl])
          go_wp2_with fail
          exact ⟨⟨k + 1, by omega, by go_num, by rw [HS2.out]; exact HI.out.set_ (by rw [HLN.out, HN.out]) k u, HT.out.trans (Turn.put1 wr _)⟩, by simp [intOf]; omega⟩
        · have e3 : (z == v) = false := by rw [beq_eq_false_iff_ne]; exact hz
          have HS2 := Lib.hid (HM.out hz)
          go_wp2_with fail
          exact ⟨⟨k + 1, by omega, by go_num, by rw [HS2.out]; exact HI.out, HT.out⟩, by simp [intOf]; omega⟩
      · obtain rfl : k = N := by omega
        go_wp2_with fail
        go_ret
        exact ⟨by rw [e1]; rfl, by rw [HR.out]; exact HI.out, HT.out⟩

/-- The ends of the leads of a list. -/
def endP (ls : List Nd) (f : Nat → Nat) (k : Nat) : Nat × Nat := ((atN ls (f k)).x.toNat, (atN ls (f k)).y.toNat)

def lstF (xs : List Int) (k : Nat) : Nat := (atZ xs k).toNat

/-- Is the list a tree of leads that joins all nodes? -/
noncomputable def spanB (ns ls : List Nd) (xs : List Int) : Bool := wholeB ns ls && (lstB ls.length xs && (decide ((xs.length : Int) = (ns.length : Int) - 1) && allB (endP ls (lstF xs)) ns.length xs.length))

theorem lead_nat {ns ls : List Nd} (hw : winB ns ls = true) {m : Nat} (hm : m < ls.length) : ∃ i j : Nat, atN ls m = ⟨i, j⟩ ∧ i < ns.length ∧ j < ns.length := by
  obtain ⟨i, j, e, _, h1, h2, h3, h4⟩ := leadOkB_spec (((winB_iff ns ls).1 hw).2.2 m hm).1
  exact ⟨i, j, e, h1, h2⟩

theorem endP_is {ls : List Nd} {f : Nat → Nat} {k i j : Nat} (h : atN ls (f k) = ⟨i, j⟩) : endP ls f k = (i, j) := by
  unfold endP
  rw [h]
  simp

theorem endP_lt {ns ls : List Nd} (hw : winB ns ls = true) {f : Nat → Nat} {k : Nat} (h : f k < ls.length) : (endP ls f k).1 < ns.length ∧ (endP ls f k).2 < ns.length := by
  obtain ⟨i, j, e, h1, h2⟩ := lead_nat hw h
  rw [endP_is e]
  exact ⟨h1, h2⟩

set_option maxRecDepth 100000 in
set_option maxHeartbeats 4000000 in
theorem specSpan (ns ls : List Nd) (xs : List Int) (vn vl v : Value) (w : World) (hn : Prs w vn ns) (hl : Prs w vl ls) (hv : Seq w v xs) :
    Calls Tryz.prog 16 #[.agg #[vn, vl], v] w (BoolIs (spanB ns ls xs) w) := by
  have HWH := Lib.hid (fun w h1 h2 => specWhole ns ls vn vl w h1 h2)
  have HLS := Lib.hid (fun w h => specLst ls.length xs v w h (by have := hl.len; omega))
  have HGR := Lib.hid (fun w h => specGroups ns.length w h)
  unfold IntsNew at HGR
  have HN := Lib.hid hn
  have HL := Lib.hid hl
  have HV := Lib.hid hv
  have hnl := hn.len
  have hll := hl.len
  have hvl := hv.len
  have H0 := Lib.hid (held_pair w vn vl 32)
  obtain ⟨A, c, rfl⟩ := prs_form2 hn
  obtain ⟨A2, c2, rfl⟩ := prs_form2 hl
  obtain ⟨A3, c3, rfl⟩ := seq_form2 hv
  clear hn hl hv
  have HRS := Lib.hid (show spanB ns ls xs = (wholeB ns ls && (lstB ls.length xs && (decide ((xs.length : Int) = (ns.length : Int) - 1) && allB (endP ls (lstF xs)) ns.length xs.length))) from rfl)
  generalize spanB ns ls xs = r at *
  cases hh : wholeB ns ls
  · have HR := Lib.hid (show r = false from by rw [HRS.out, hh]; rfl)
    rw [hh] at HWH
    clear HRS hh
    obtain ⟨x0, x1, _⟩ := H0.out.1
    go_enter Tryz.func16, Tryz.ntmps16
    go_wp2_with fail
    refine (HWH.out _ (HN.out.step H0.out.below) (HL.out.step H0.out.below)).mono ?_
    rintro e wH1 ⟨rfl, hb⟩
    have H1 := Lib.hid ((H0.out).step hb); clear hb
    try clear x0 x1
    obtain ⟨x0, x1, _⟩ := H1.out.1
    go_wp2_with fail
    go_ret
    exact ⟨ret_bool HR.out.symm, H1.out.below⟩
  cases hs : lstB ls.length xs
  · have HR := Lib.hid (show r = false from by rw [HRS.out, hh, hs]; rfl)
    rw [hh] at HWH
    rw [hs] at HLS
    clear HRS hh hs
    obtain ⟨x0, x1, _⟩ := H0.out.1
    go_enter Tryz.func16, Tryz.ntmps16
    go_wp2_with fail
    refine (HWH.out _ (HN.out.step H0.out.below) (HL.out.step H0.out.below)).mono ?_
    rintro e wH1 ⟨rfl, hb⟩
    have H1 := Lib.hid ((H0.out).step hb); clear hb
    try clear x0 x1
    obtain ⟨x0, x1, _⟩ := H1.out.1
    go_wp2_with fail
    refine (HLS.out _ (HV.out.step H1.out.below)).mono ?_
    rintro e wH2 ⟨rfl, hb⟩
    have H2 := Lib.hid ((H1.out).step hb); clear hb
    try clear x0 x1
    obtain ⟨x0, x1, _⟩ := H2.out.1
    go_wp2_with fail
    go_ret
    exact ⟨ret_bool HR.out.symm, H2.out.below⟩
  rw [hh] at HWH
  rw [hs] at HLS
  obtain ⟨hw, hl0, hl20, hn12⟩ := whole_win hh
  have HW := Lib.hid hw; clear hw
  have HLP := Lib.hid ((lstB_iff ls.length xs).1 hs)
  have hn1 := (((winB_iff ns ls).1 HW.out).1.1).1
  have hx20 := HLP.out.len
  by_cases hnum : ¬ (xs.length : Int) = (ns.length : Int) - 1
  · have HR := Lib.hid (show r = false from by rw [HRS.out, hh, hs]; simp [hnum])
    have e1 : ((xs.length : Int) != (ns.length : Int) - 1) = true := by simp [hnum]
    have e2 : IntKind.i64.wrap ((ns.length : Int) - 1) = (ns.length : Int) - 1 := IntWalk.i64_in _ (by omega)
    clear HRS hh hs
    have HNM := Lib.hid hnum; clear hnum
    obtain ⟨x0, x1, _⟩ := H0.out.1
    go_enter Tryz.func16, Tryz.ntmps16
    go_wp2_with fail
    refine (HWH.out _ (HN.out.step H0.out.below) (HL.out.step H0.out.below)).mono ?_
    rintro e wH1 ⟨rfl, hb⟩
    have H1 := Lib.hid ((H0.out).step hb); clear hb
    try clear x0 x1
    obtain ⟨x0, x1, _⟩ := H1.out.1
    go_wp2_with fail
    refine (HLS.out _ (HV.out.step H1.out.below)).mono ?_
    rintro e wH2 ⟨rfl, hb⟩
    have H2 := Lib.hid ((H1.out).step hb); clear hb
    try clear x0 x1
    obtain ⟨x0, x1, _⟩ := H2.out.1
    go_wp2_with fail
    go_ret
    exact ⟨ret_bool HR.out.symm, H2.out.below⟩
  have hnum : (xs.length : Int) = (ns.length : Int) - 1 := Classical.not_not.1 hnum
  have HR := Lib.hid (show r = allB (endP ls (lstF xs)) ns.length xs.length from by rw [HRS.out, hh, hs]; simp [hnum])
  clear HRS hh hs
  have e1 : ((xs.length : Int) != (ns.length : Int) - 1) = false := by simp [hnum]
  have e2 : IntKind.i64.wrap ((ns.length : Int) - 1) = (ns.length : Int) - 1 := IntWalk.i64_in _ (by omega)
  have HNM := Lib.hid hnum; clear hnum
  have HBAD := Lib.hid (fun k (hk : k < xs.length) h => allB_bad (p := endP ls (lstF xs)) (N := ns.length) hk h)
  have HGOOD := Lib.hid (fun h => allB_good (p := endP ls (lstF xs)) (N := ns.length) (m := xs.length) h)
  have HSTP := Lib.hid (fun k => (show stpB (endP ls (lstF xs)) ns.length k = (atZ (grpL (endP ls (lstF xs)) ns.length k) (endP ls (lstF xs) k).1 != atZ (grpL (endP ls (lstF xs)) ns.length k) (endP ls (lstF xs) k).2) from rfl))
  have HGS := Lib.hid (fun k => (show grpL (endP ls (lstF xs)) ns.length (k + 1) = jnL (grpL (endP ls (lstF xs)) ns.length k) (endP ls (lstF xs) k).1 (endP ls (lstF xs) k).2 from rfl))
  have HGL := Lib.hid (fun k => grpL_len (endP ls (lstF xs)) ns.length k)
  have HGZ := Lib.hid (show grpL (endP ls (lstF xs)) ns.length 0 = numL ns.length from rfl)
  have HEP := Lib.hid (fun (k i j : Nat) (h : atN ls (lstF xs k) = ⟨i, j⟩) => endP_is (ls := ls) (f := lstF xs) h)
  generalize allB (endP ls (lstF xs)) ns.length xs.length = ab at *
  generalize stpB (endP ls (lstF xs)) ns.length = ST at *
  generalize grpL (endP ls (lstF xs)) ns.length = G at *
  generalize endP ls (lstF xs) = EP at *
  obtain ⟨x0, x1, _⟩ := H0.out.1
  go_enter Tryz.func16, Tryz.ntmps16
  go_wp2_with fail
  refine (HWH.out _ (HN.out.step H0.out.below) (HL.out.step H0.out.below)).mono ?_
  rintro e wH1 ⟨rfl, hb⟩
  have H1 := Lib.hid ((H0.out).step hb); clear hb
  try clear x0 x1
  obtain ⟨x0, x1, _⟩ := H1.out.1
  go_wp2_with fail
  refine (HLS.out _ (HV.out.step H1.out.below)).mono ?_
  rintro e wH2 ⟨rfl, hb⟩
  have H2 := Lib.hid ((H1.out).step hb); clear hb
  try clear x0 x1
  obtain ⟨x0, x1, _⟩ := H2.out.1
  go_wp2_with fail
  refine (HGR.out _ (by omega)).mono ?_
  rintro e w3 ⟨vg, rfl, hg, hb⟩
  have H3 := Lib.hid (H2.out.step hb); clear hb
  obtain ⟨g, cg, hvg⟩ : ∃ g cg, vg = .slice (some ⟨g, 0, none⟩) ns.length cg := by
    obtain ⟨g, cg, h⟩ := hg.some_ (by rw [numL_len]; omega)
    exact ⟨g, cg, by rw [h, numL_len]⟩
  subst hvg
  have hgB := (hg.own g rfl).1
  have hgS := (hg.own g rfl).2
  have hsz2 := H2.out.2.1.1
  have HG3 := Lib.hid (hg.mono (b' := w.heap.size + 1) (by omega)); clear hg
  have hgw : w.heap.size < g := by omega
  clear x0 x1 H0 H1
  obtain ⟨x0, x1, _⟩ := H3.out.1
  go_wp2_with fail
  go_loopw [6] (fun i wr => ∃ k : Nat, k ≤ xs.length ∧ i = .int .i64 k ∧ (∀ j, j < k → ST j = true) ∧ Ints wr (w.heap.size + 1) (.slice (some ⟨g, 0, none⟩) ns.length cg) (G k) ∧ Held w wr [(w.heap.size, 0, .slice A ns.length c), (w.heap.size, 1, .slice A2 ls.length c2)]) (fun i _ => xs.length - (intOf i).toNat)
  case atStart => exact ⟨0, Nat.zero_le _, rfl, fun j hj => by omega, by rw [HGZ.out]; exact HG3.out, H3.out⟩
  case round =>
    clear HG3 H3 x0 x1
    obtain ⟨k, hk, rfl, hok, hgk, hh⟩ := hrel
    have HOK := Lib.hid hok; clear hok
    have HGK := Lib.hid hgk; clear hgk
    have H3 := Lib.hid hh; clear hh
    by_cases hlt : k < xs.length
    · obtain ⟨bb, oo, rfl, hbl, hcs⟩ := seq_at HV.out k hlt
      have hin := HLP.out.inr k hlt
      obtain ⟨q, hq⟩ : ∃ q : Nat, atZ xs k = (q : Int) := ⟨(atZ xs k).toNat, by omega⟩
      have hqlt : q < ls.length := by omega
      have c0 := hcs k hlt
      rw [hq] at c0
      clear hcs hin
      have hlf : lstF xs k = q := by unfold lstF; rw [hq]; rfl
      obtain ⟨i, j, hij, hin, hjn⟩ := lead_nat HW.out hqlt
      have HEK := Lib.hid (HEP.out k i j (by rw [hlf]; exact hij))
      clear hlf hq
      obtain ⟨bl, ol, cl, he, hbl2, hcl⟩ := prs_at2 HL.out hqlt
      simp only [Value.slice.injEq] at he
      obtain ⟨rfl, -, -⟩ := he
      obtain ⟨c1, c2'⟩ := hcl q hqlt
      rw [hij] at c1 c2'
      simp only at c1 c2'
      clear hcl
      have HSK := Lib.hid (show ST k = (atZ (G k) i != atZ (G k) j) from by rw [HSTP.out, HEK.out])
      have HGN := Lib.hid (show G (k + 1) = jnL (G k) i j from by rw [HGS.out, HEK.out])
      have HBK := Lib.hid (HBAD.out k hlt)
      have hB3 := H3.out.below
      have H4 := Lib.hid (held_plus H3.out (gs := [(bb, oo + k, .int .i64 (q : Int)), (bl, ol + q * 2, .int .i64 (i : Int)), (bl, ol + q * 2 + 1, .int .i64 (j : Int))]) ⟨(hB3.cell (p := ⟨bb, oo + k, none⟩) hbl).trans c0, (hB3.cell (p := ⟨bl, ol + q * 2, none⟩) hbl2).trans c1, (hB3.cell (p := ⟨bl, ol + q * 2 + 1, none⟩) hbl2).trans c2', trivial⟩ ⟨Nat.lt_of_lt_of_le hbl hB3.size, Nat.lt_of_lt_of_le hbl2 hB3.size, Nat.lt_of_lt_of_le hbl2 hB3.size, trivial⟩)
      simp only [List.cons_append, List.nil_append] at H4
      clear c0 c1 c2' hB3
      have p1 : (0 : Int) ≤ k := by omega
      have p2 : (k : Int) < (xs.length : Int) := by omega
      have p3 : (0 : Int) ≤ q := by omega
      have p4 : (q : Int) < (ls.length : Int) := by omega
      have HIJ := Lib.hid hij; clear hij
      obtain ⟨x0, x1, x2, x3, x4, _⟩ := H4.out.1
      go_wp2_with fail
      clear x0 x1 x2 x3 x4
      have HBH5 := Lib.hid H4.out.2.1
      refine regionW (fun W => Held _ W [(w.heap.size, 0, .slice A ns.length c), (w.heap.size, 1, .slice (some ⟨bl, ol, none⟩) ls.length c2), (bb, oo + k, .int .i64 (q)), (bl, ol + q * 2, .int .i64 (i)), (bl, ol + q * 2 + 1, .int .i64 (j))]) (by kernel_rfl) (Held.start H4.out.1 H4.out.2.1).drew ?_
      refine takeW (i := 0) (v := ?_) (Stable.held _ _) rfl (by kernel_rfl) (by kernel_rfl) (by kernel_rfl) (fun _ _ _ h => h) ?_ ?_
      rotate_left
      · first | (refine Or.inl ⟨by rfl, fun W hS => detR_value (w' := W) ?_ (Below.refl _ _)⟩; obtain ⟨x0, x1, x2, x3, x4, _⟩ := hS.1; go_simp; first | done | with_reducible rfl) | fail
      simp only [Act.put, List.setIfInBounds_toArray, List.set_cons_zero, List.set_cons_succ]
      refine takeW (i := 1) (v := ?_) (Stable.held _ _) rfl (by kernel_rfl) (by kernel_rfl) (by kernel_rfl) (fun _ _ _ h => h) ?_ ?_
      rotate_left
      · first | (refine Or.inl ⟨by rfl, fun W hS => detR_value (w' := W) ?_ (Below.refl _ _)⟩; obtain ⟨x0, x1, x2, x3, x4, _⟩ := hS.1; go_simp; first | done | with_reducible rfl) | fail
      simp only [Act.put, List.setIfInBounds_toArray, List.set_cons_zero, List.set_cons_succ]
      refine takeW (i := 2) (v := ?_) (Stable.held _ _) rfl (by kernel_rfl) (by kernel_rfl) (by kernel_rfl) (fun _ _ _ h => h) ?_ ?_
      rotate_left
      · first | (refine Or.inl ⟨by rfl, fun W hS => detR_value (w' := W) ?_ (Below.refl _ _)⟩; obtain ⟨x0, x1, x2, x3, x4, _⟩ := hS.1; go_simp; first | done | with_reducible rfl) | fail
      simp only [Act.put, List.setIfInBounds_toArray, List.set_cons_zero, List.set_cons_succ]
      refine takeW (i := 3) (v := ?_) (Stable.held _ _) rfl (by kernel_rfl) (by kernel_rfl) (by kernel_rfl) (fun _ _ _ h => h) ?_ ?_
      rotate_left
      · first | (refine Or.inl ⟨by rfl, fun W hS => detR_value (w' := W) ?_ (Below.refl _ _)⟩; obtain ⟨x0, x1, x2, x3, x4, _⟩ := hS.1; go_simp; first | done | with_reducible rfl) | fail
      simp only [Act.put, List.setIfInBounds_toArray, List.set_cons_zero, List.set_cons_succ]
      refine takeW (i := 4) (v := ?_) (Stable.held _ _) rfl (by kernel_rfl) (by kernel_rfl) (by kernel_rfl) (fun _ _ _ h => h) ?_ ?_
      rotate_left
      · first | (refine Or.inl ⟨by rfl, fun W hS => detR_value (w' := W) ?_ (Below.refl _ _)⟩; obtain ⟨x0, x1, x2, x3, x4, _⟩ := hS.1; go_simp; first | done | with_reducible rfl) | fail
      simp only [Act.put, List.setIfInBounds_toArray, List.set_cons_zero, List.set_cons_succ]
      refine takeW (i := 5) (v := ?_) (Stable.held _ _) rfl (by kernel_rfl) (by kernel_rfl) (by kernel_rfl) (fun _ _ _ h => h) ?_ ?_
      rotate_left
      · first | (refine Or.inl ⟨by rfl, fun W hS => detR_value (w' := W) ?_ (Below.refl _ _)⟩; obtain ⟨x0, x1, x2, x3, x4, _⟩ := hS.1; go_simp; first | done | with_reducible rfl) | fail
      simp only [Act.put, List.setIfInBounds_toArray, List.set_cons_zero, List.set_cons_succ]
      refine takeW (i := 6) (v := ?_) (Stable.held _ _) rfl (by kernel_rfl) (by kernel_rfl) (by kernel_rfl) (fun _ _ _ h => h) ?_ ?_
      rotate_left
      · first | (refine Or.inl ⟨by rfl, fun W hS => detR_value (w' := W) ?_ (Below.refl _ _)⟩; obtain ⟨x0, x1, x2, x3, x4, _⟩ := hS.1; go_simp; first | done | with_reducible rfl) | fail
      simp only [Act.put, List.setIfInBounds_toArray, List.set_cons_zero, List.set_cons_succ]
      refine takeW (i := 7) (v := ?_) (Stable.held _ _) rfl (by kernel_rfl) (by kernel_rfl) (by kernel_rfl) (fun _ _ _ h => h) ?_ ?_
      rotate_left
      · first | (refine Or.inl ⟨by rfl, fun W hS => detR_value (w' := W) ?_ (Below.refl _ _)⟩; obtain ⟨x0, x1, x2, x3, x4, _⟩ := hS.1; go_simp; first | done | with_reducible rfl) | fail
      simp only [Act.put, List.setIfInBounds_toArray, List.set_cons_zero, List.set_cons_succ]
      refine allocV (i := 8) 58 #[.int .i64 0, .int .i64 0] rfl (by kernel_rfl) (by rfl) (fun W => ?_) (fun vn => ?_)
      · go_simp; first | done | with_reducible rfl
      simp only [Act.put, List.setIfInBounds_toArray, List.set_cons_zero, List.set_cons_succ]
      refine storeV (i := 9) #[.int .i64 i, .int .i64 j] rfl (by kernel_rfl) (by rfl) rfl (by rfl) (by rfl) HBH5.out rfl (by kernel_rfl) (by simp [Value.oneCell']) ?_
      simp only [Act.put, List.setIfInBounds_toArray, List.set_cons_zero, List.set_cons_succ]
      refine doneW (by kernel_rfl) fun wH5 HG => ?_
      obtain ⟨⟨hH, _⟩, bH5, rfl, hbn, hcn⟩ := HG
      have BWH5 := Lib.hid hH.2.2
      have H5 := Lib.hid (Held.joined H4.out hH hcn); clear hH hcn HBH5
      try clear x0 x1 x2 x3 x4
      obtain ⟨x0, x1, x2, x3, x4, x5, x6, _⟩ := H5.out.1
      go_wp2_with fail
      have HJN := Lib.hid (specJoin (G k) i j (w.heap.size + 1) g cg ns.length _ (HGK.out.step BWH5.out) (HGL.out k) hin hjn (by omega))
      rw [← HSK.out, ← HGN.out] at HJN
      clear BWH5 HGN HEK
      generalize hd : ST k = d at *
      cases d
      · have HRF := Lib.hid (show r = false from by rw [HR.out]; exact HBK.out rfl)
        refine HJN.out.mono ?_
        rintro e w6 ⟨rfl, hg6, ht6⟩
        have H6 := Lib.hid ((H5.out.only (gs := [(w.heap.size, 0, .slice A ns.length c), (w.heap.size, 1, .slice (some ⟨bl, ol, none⟩) ls.length c2)]) (fun ⟨_, _, a, b, _⟩ => ⟨a, b, trivial⟩) (fun ⟨_, _, a, b, _⟩ => ⟨a, b, trivial⟩)).turn ht6 ⟨.inl (by omega), .inl (by omega), trivial⟩ (by omega))
        go_wp2_with fail
        go_ret
        exact ⟨ret_bool HRF.out.symm, H6.out.below⟩
      · have HOK2 := Lib.hid (show ∀ j', j' < k + 1 → ST j' = true from fun j' hj' => by
          by_cases e : j' = k
          · rw [e]; exact hd
          · exact HOK.out j' (by omega))
        clear hd
        refine HJN.out.mono ?_
        rintro e w6 ⟨rfl, hg6, ht6⟩
        have H6 := Lib.hid ((H5.out.only (gs := [(w.heap.size, 0, .slice A ns.length c), (w.heap.size, 1, .slice (some ⟨bl, ol, none⟩) ls.length c2)]) (fun ⟨_, _, a, b, _⟩ => ⟨a, b, trivial⟩) (fun ⟨_, _, a, b, _⟩ => ⟨a, b, trivial⟩)).turn ht6 ⟨.inl (by omega), .inl (by omega), trivial⟩ (by omega))
        have HG6 := Lib.hid hg6
        clear hg6 ht6
        go_wp2_with fail
        exact ⟨⟨k + 1, by omega, by go_num, HOK2.out, HG6.out, H6.out⟩, by simp [intOf]; omega⟩
    · obtain rfl : k = xs.length := by omega
      have HRT := Lib.hid (show r = true from by rw [HR.out]; exact HGOOD.out HOK.out)
      obtain ⟨x0, x1, _⟩ := H3.out.1
      go_wp2_with fail
      go_ret
      exact ⟨ret_bool HRT.out.symm, H3.out.below⟩
end Go.Proofs.YtmcbbjobjogkmaaGreat
