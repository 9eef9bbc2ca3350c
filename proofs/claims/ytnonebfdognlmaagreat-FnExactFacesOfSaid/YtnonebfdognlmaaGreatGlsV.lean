/-
  AreBeside, BesideOf, SidesOf, of the model; FaceDegrees, of both.
-/
import Derived.Test.YtnonebfdognlmaaGreatGlsU
namespace Go.Proofs.YtnonebfdognlmaaGreat
open Go.RowKit
set_option linter.unusedVariables false
set_option linter.unusedSimpArgs false

theorem besB_none {ns ls : List Nd} {f h : Int} (hf : ¬ idxB (wF ns ls).length f = true) : besB ns ls f h = false := by
  unfold besB
  rw [sharedW_none (fun hx => hf hx.1)]
  simp
theorem besW_none {ns ls : List Nd} {f : Int} (hf : ¬ idxB (wF ns ls).length f = true) : besW ns ls f = [] := fltN_none _ fun k _ => besB_none hf
theorem besW_len (ns ls : List Nd) (f : Int) : (besW ns ls f).length ≤ 40 := by
  have := fltN_len (fun k => besB ns ls f k) (wF ns ls).length
  have := wF_len (ns := ns) (ls := ls)
  unfold besW
  omega
set_option maxRecDepth 100000 in
theorem specAreBeside (ns ls : List Nd) (vn vl : Value) (f h : Int) (w : World) (hn : Prs w vn ns) (hl : Prs w vl ls) :
    Calls Tryz.prog 41 #[.agg #[vn, vl], .int .i64 f, .int .i64 h] w (BoolIs (besB ns ls f h) w) := by
  have HS := Lib.hid (fun w h1 h2 => specSharedLeads ns ls vn vl f h w h1 h2)
  have HN := Lib.hid hn
  have HL := Lib.hid hl
  have H0 := Lib.hid (held_pair w vn vl 32)
  obtain ⟨A, c, rfl⟩ := prs_form2 hn
  obtain ⟨A2, c2, rfl⟩ := prs_form2 hl
  clear hn hl
  have hx40 := sharedW_len ns ls f h
  by_cases hfh : f = h
  · have g : (f != h) = false := by simp [hfh]
    have HR := Lib.hid (show besB ns ls f h = false from by unfold besB; simp [hfh])
    generalize besB ns ls f h = res at *
    clear hfh
    go_enter Tryz.func41, Tryz.ntmps41
    go_wp2_with fail
    go_ret
    exact ⟨ret_bool HR.out.symm, H0.out.below⟩
  · have g : (f != h) = true := by simp [hfh]
    have HR := Lib.hid (show besB ns ls f h = decide (0 < (sharedW ns ls f h).length) from by unfold besB; simp [hfh])
    generalize besB ns ls f h = res at *
    generalize sharedW ns ls f h = xs at *
    clear hfh
    obtain ⟨x0, x1, _⟩ := H0.out.1
    by_cases hx : 0 < xs.length
    · have HX := Lib.hid (show res = true from by rw [HR.out]; simpa using hx)
      have hx2 : (0 : Int) < (xs.length : Int) := by omega
      go_enter Tryz.func41, Tryz.ntmps41
      go_wp2_with fail
      refine (HS.out _ (HN.out.step H0.out.below) (HL.out.step H0.out.below)).mono ?_
      intro e w1 hnew
      obtain ⟨a5, c5, rfl, hb⟩ := ints_newform hnew
      have H1 := Lib.hid (H0.out.step hb); clear hb hnew
      go_wp2_with fail
      go_ret
      exact ⟨ret_bool HX.out.symm, H1.out.below⟩
    · have HX := Lib.hid (show res = false from by rw [HR.out]; simpa using hx)
      have hx2 : (xs.length : Int) ≤ 0 := by omega
      have hx3 : xs.length = 0 := by omega
      go_enter Tryz.func41, Tryz.ntmps41
      go_wp2_with fail
      refine (HS.out _ (HN.out.step H0.out.below) (HL.out.step H0.out.below)).mono ?_
      intro e w1 hnew
      obtain ⟨a5, c5, rfl, hb⟩ := ints_newform hnew
      have H1 := Lib.hid (H0.out.step hb); clear hb hnew
      go_wp2_with fail
      go_ret
      exact ⟨ret_bool HX.out.symm, H1.out.below⟩

set_option maxRecDepth 100000 in
set_option maxHeartbeats 2000000 in
theorem specBesideOf (ns ls : List Nd) (vn vl : Value) (f : Int) (w : World) (hn : Prs w vn ns) (hl : Prs w vl ls) :
    Calls Tryz.prog 43 #[.agg #[vn, vl], .int .i64 f] w (IntsNew (besW ns ls f) w) := by
  have HS := Lib.hid (fun (k : Nat) w h1 h2 => specAreBeside ns ls vn vl f k w h1 h2)
  have HF := Lib.hid (fun w h1 h2 => specFacesL ns ls vn vl w h1 h2)
  have HI1 := Lib.hid (fun w h1 h2 => specIs9 ns ls vn vl f w h1 h2)
  unfold BoolIs at HS HI1
  unfold FacesNew at HF
  have HN := Lib.hid hn
  have HL := Lib.hid hl
  have H0 := Lib.hid (held_pair w vn vl 32)
  obtain ⟨A, c, rfl⟩ := prs_form2 hn
  obtain ⟨A2, c2, rfl⟩ := prs_form2 hl
  clear hn hl
  have h40 := wF_len (ns := ns) (ls := ls)
  have H1 := Lib.hid (H0.out.alloc (.cells #[] 3))
  have HO1 := Lib.hid (Ints.made (w.alloc (.cells #[.slice A ns.length c, .slice A2 ls.length c2] 32)) (w.heap.size + 1) (w.heap.size + 1) (by simp) (Nat.le_refl _))
  clear H0
  by_cases hf : idxB (wF ns ls).length f = true
  · rw [hf] at HI1
    clear hf
    obtain ⟨i0, hi, hz0, hz1, hz2⟩ := info_parts infoInt
    have HI := Lib.hid (And.intro hi (And.intro hz0 (And.intro hz1 hz2))); clear hi hz0 hz1 hz2
    obtain ⟨p, hp⟩ : ∃ p : Nat → Bool, p = (fun k : Nat => besB ns ls f k) := ⟨_, rfl⟩
    have HR := Lib.hid (show besW ns ls f = fltN p (wF ns ls).length from by rw [hp]; rfl)
    have HS := Lib.hid (fun (k : Nat) w h1 h2 => (show Calls Tryz.prog 41 _ w (fun e w' => e = .returned (.bool (p k)) ∧ Below w.heap.size w w') from by rw [hp]; exact HS.out k w h1 h2))
    have HU := Lib.hid (fltN_succ p)
    have HLN := Lib.hid (fltN_len p)
    have HZ := Lib.hid (show fltN p 0 = [] from rfl)
    clear hp
    generalize besW ns ls f = res at *
    generalize fltN p = X at *
    generalize wF ns ls = rs at *
    go_enter Tryz.func43, Tryz.ntmps43
    go_wp2_with fail
    refine (HF.out _ (HN.out.step H1.out.below) (HL.out.step H1.out.below)).mono ?_
    rintro e w1 ⟨vf, rfl, hf, hb⟩
    obtain ⟨a, c3, rfl⟩ := faces_form hf
    have H2 := Lib.hid (H1.out.step hb)
    have HO2 := Lib.hid (HO1.out.step hb)
    clear hb hf H1 HO1
    go_wp2_with fail
    go_loopw [5, 7] (fun v i wr => ∃ m : Nat, m ≤ rs.length ∧ i = .int .i64 m ∧ Ints wr (w.heap.size + 1) v (X m) ∧ Held w wr [(w.heap.size, 0, .slice A ns.length c), (w.heap.size, 1, .slice A2 ls.length c2)]) (fun _ i _ => rs.length - (intOf i).toNat)
    case atStart => exact ⟨0, Nat.zero_le _, rfl, by rw [HZ.out]; exact HO2.out, H2.out⟩
    case round =>
      clear H2 HO2
      obtain ⟨m, hm, rfl, hown, hh⟩ := hrel
      have HO := Lib.hid hown; clear hown
      have H1 := Lib.hid hh; clear hh
      obtain ⟨x0, x1, _⟩ := H1.out.1
      by_cases hlt : m < rs.length
      · have q1 : (0 : Int) ≤ m := by omega
        have q2 : (m : Int) < (rs.length : Int) := by omega
        have HUM := Lib.hid (HU.out m)
        have hln := HLN.out m
        have HSM := Lib.hid (HS.out m)
        generalize hpm : p m = b at *
        clear hpm
        go_wp2_with fail
        refine (HI1.out _ (HN.out.step H1.out.below) (HL.out.step H1.out.below)).mono ?_
        rintro e w2 ⟨rfl, hb⟩
        have H3 := Lib.hid (H1.out.step hb)
        have HO3 := Lib.hid (HO.out.step hb)
        clear hb H1 HO x0 x1
        obtain ⟨x0, x1, _⟩ := H3.out.1
        go_wp2_with fail
        refine (HSM.out _ (HN.out.step H3.out.below) (HL.out.step H3.out.below)).mono ?_
        rintro e w3 ⟨rfl, hb⟩
        have H2 := Lib.hid (H3.out.step hb)
        have HO2 := Lib.hid (HO3.out.step hb)
        clear hb H3 HO3 x0 x1
        cases b
        · go_wp2_with fail
          exact ⟨⟨m + 1, by omega, by go_num, by rw [HUM.out]; exact HO2.out, H2.out⟩, by simp [intOf]; omega⟩
        · obtain ⟨hi, hz0, hz1, hz2⟩ := HI.out
          have hsz1 := H2.out.2.1.1
          go_wp2_with (at_builtin; refine wpList_append_own _ rfl _ _ 41 rfl (w.heap.size + 1) 3 i0 (.int .i64 0) 1 8 Tryz.underlying41 hi hz0 hz1 hz2 rfl (by decide) _ _ _ rfl (World.ownsRow.alloc HO2.out _) ⟨_, 0, none⟩ 1 1 [.int .i64 m] rfl rfl ?c1 ?c2 ?c3 ?c4 ?c5 ?_)
          case c1 => exact cell_one_new _ _ _
          case c2 => simp [Value.oneCell']
          case c3 => unfold maxLen; omega
          case c4 => omega
          case c5 => simp <;> omega
          intro v' w5 hown hgrow _
          have H5 := Lib.hid (H2.out.stepB (B := w.heap.size + 1) ⟨Nat.lt_succ_self _, Nat.lt_succ_self _, trivial⟩ (grown_below HO2.out hsz1 hgrow) (Nat.le_succ _))
          have HO5 := Lib.hid (Ints.more hown); clear hown hgrow
          go_wp2_with fail
          exact ⟨⟨m + 1, by omega, by go_num, by rw [HUM.out]; exact HO5.out, H5.out⟩, by simp [intOf]; omega⟩
      · obtain rfl : m = rs.length := by omega
        go_wp2_with fail
        go_ret
        exact ⟨_, rfl, by rw [HR.out]; exact HO.out.mono (Nat.le_succ _), H1.out.below⟩
  · have HR := Lib.hid (besW_none hf)
    rw [show idxB (wF ns ls).length f = false by simpa using hf] at HI1
    clear hf
    generalize besW ns ls f = res at *
    generalize wF ns ls = rs at *
    go_enter Tryz.func43, Tryz.ntmps43
    go_wp2_with fail
    refine (HF.out _ (HN.out.step H1.out.below) (HL.out.step H1.out.below)).mono ?_
    rintro e w1 ⟨vf, rfl, hf, hb⟩
    obtain ⟨a, c3, rfl⟩ := faces_form hf
    have H2 := Lib.hid (H1.out.step hb)
    have HO2 := Lib.hid (HO1.out.step hb)
    clear hb hf H1 HO1
    go_wp2_with fail
    go_loopw [5, 7] (fun v i wr => i = .int .i64 0 ∧ Ints wr (w.heap.size + 1) v [] ∧ Held w wr [(w.heap.size, 0, .slice A ns.length c), (w.heap.size, 1, .slice A2 ls.length c2)]) (fun _ _ _ => 0)
    case atStart => exact ⟨rfl, HO2.out, H2.out⟩
    case round =>
      clear H2 HO2
      obtain ⟨rfl, hown, hh⟩ := hrel
      have HO := Lib.hid hown; clear hown
      have H1 := Lib.hid hh; clear hh
      obtain ⟨x0, x1, _⟩ := H1.out.1
      by_cases hlt : 0 < rs.length
      · have q2 : (0 : Int) < (rs.length : Int) := by omega
        go_wp2_with fail
        refine (HI1.out _ (HN.out.step H1.out.below) (HL.out.step H1.out.below)).mono ?_
        rintro e w2 ⟨rfl, hb⟩
        have H3 := Lib.hid (H1.out.step hb)
        have HO3 := Lib.hid (HO.out.step hb)
        clear hb H1 HO x0 x1
        go_wp2_with fail
        go_ret
        exact ⟨_, rfl, by rw [HR.out]; exact HO3.out.mono (Nat.le_succ _), H3.out.below⟩
      · have q2 : rs.length = 0 := by omega
        have q3 : (rs.length : Int) ≤ 0 := by omega
        go_wp2_with fail
        go_ret
        exact ⟨_, rfl, by rw [HR.out]; exact HO.out.mono (Nat.le_succ _), H1.out.below⟩

def degF (rs : List (List Int)) (n : Nat) : List Int := (rs.take n).map fun r => ((r.length : Nat) : Int)
theorem degF_succ {rs : List (List Int)} {n : Nat} (h : n < rs.length) : degF rs (n + 1) = degF rs n ++ [(((atR rs n).length : Nat) : Int)] := by
  unfold degF
  rw [takeR_succ h]
  simp
theorem degF_len (rs : List (List Int)) (n : Nat) : (degF rs n).length ≤ n := by unfold degF; rw [List.length_map, List.length_take]; omega
noncomputable def degW (ns ls : List Nd) : List Int := degF (wF ns ls) (wF ns ls).length
theorem degW_len (ns ls : List Nd) : (degW ns ls).length ≤ 40 := by
  have := degF_len (wF ns ls) (wF ns ls).length
  have := wF_len (ns := ns) (ls := ls)
  unfold degW
  omega

/-- What lies in the blocks from B on and before the heap's end of w is as it was. -/
def Keeps (B : Nat) (w W : World) : Prop := w.heap.size ≤ W.heap.size ∧ ∀ k, B ≤ k → k < w.heap.size → W.heap[k]? = w.heap[k]?
theorem Keeps.refl (B : Nat) (w : World) : Keeps B w w := ⟨Nat.le_refl _, fun _ _ _ => rfl⟩
theorem Keeps.below {B : Nat} {w W W' : World} (h : Keeps B w W) (hb : Below W.heap.size W W') : Keeps B w W' := ⟨Nat.le_trans h.1 hb.size, fun k h1 h2 => (hb.block k (Nat.lt_of_lt_of_le h2 h.1)).trans (h.2 k h1 h2)⟩
theorem Keeps.grown {B : Nat} {w W W' : World} {row : Option Nat} (h : Keeps B w W) (hg : W.grownBy W' row) (hr : ∀ k, row = some k → k < B ∨ w.heap.size ≤ k) : Keeps B w W' :=
  ⟨Nat.le_trans h.1 hg.size, fun k h1 h2 => (hg.block k (Nat.lt_of_lt_of_le h2 h.1) (fun e => by have := hr k e.symm; omega)).trans (h.2 k h1 h2)⟩
theorem Faces.open2 {w : World} {B : Nat} {v : Value} {rs : List (List Int)} (h : Faces w B v rs) : ∃ a c, v = .slice a rs.length c ∧ rs.length ≤ maxLen ∧ ∀ m, m < rs.length → ∃ g, a = some ⟨g, 0, none⟩ ∧ g < w.heap.size ∧
    ∀ W, Keeps B w W → ∃ A4 c4, W.cell? ⟨g, m, none⟩ = some (.slice A4 (atR rs m).length c4) ∧ Seq W (.slice A4 (atR rs m).length c4) (atR rs m) := by
  obtain ⟨us, h⟩ := h
  obtain ⟨a, c, rfl, hm, hc⟩ := h.form
  refine ⟨a, c, rfl, hm, fun m hlt => ?_⟩
  obtain ⟨g, rfl, hB, hg, hcell⟩ := hc m hlt
  refine ⟨g, rfl, hg, fun W hb => ?_⟩
  have hi := (h.each m hlt).keep (w' := W) fun k hk => hb.2 k ((h.each m hlt).own k hk).1 ((h.each m hlt).own k hk).2
  have hs := hi.seq
  obtain ⟨A4, c4, e, -, -, -⟩ := hs.form
  exact ⟨A4, c4, by rw [World.cell?_of_block (hb.2 g hB hg), hcell, e], by rw [← e]; exact hs⟩

set_option maxRecDepth 100000 in
set_option maxHeartbeats 1000000 in
theorem implDegs (ns ls : List Nd) (vn vl : Value) (w : World) (hn : Prs w vn ns) (hl : Prs w vl ls) :
    Calls Tryz.prog 33 #[.agg #[vn, vl]] w (IntsNew (degW ns ls) w) := by
  have HF := Lib.hid (fun w h1 h2 => implFacesL ns ls vn vl w h1 h2)
  unfold FacesNew at HF
  have HN := Lib.hid hn
  have HL := Lib.hid hl
  have H0 := Lib.hid (held_pair w vn vl 32)
  obtain ⟨A, c, rfl⟩ := prs_form2 hn
  obtain ⟨A2, c2, rfl⟩ := prs_form2 hl
  clear hn hl
  have h40 := wF_len (ns := ns) (ls := ls)
  have H1 := Lib.hid (H0.out.alloc (.cells #[] 3))
  have HO1 := Lib.hid (Ints.made (w.alloc (.cells #[.slice A ns.length c, .slice A2 ls.length c2] 32)) (w.heap.size + 1) (w.heap.size + 1) (by simp) (Nat.le_refl _))
  clear H0
  obtain ⟨i0, hi, hz0, hz1, hz2⟩ := info_parts infoInt
  have HI := Lib.hid (And.intro hi (And.intro hz0 (And.intro hz1 hz2))); clear hi hz0 hz1 hz2
  have HR := Lib.hid (show degW ns ls = degF (wF ns ls) (wF ns ls).length from rfl)
  have HU := Lib.hid (fun n (h : n < (wF ns ls).length) => degF_succ h)
  have HLN := Lib.hid (degF_len (wF ns ls))
  have HZ := Lib.hid (show degF (wF ns ls) 0 = [] from rfl)
  generalize degW ns ls = res at *
  generalize wF ns ls = rs at *
  go_enter Tryz.func33, Tryz.ntmps33
  go_wp2_with fail
  refine (HF.out _ (HN.out.step H1.out.below) (HL.out.step H1.out.below)).mono ?_
  rintro e w1 ⟨vf, rfl, hf, hb⟩
  have hbase : ((w.alloc (.cells #[.slice A ns.length c, .slice A2 ls.length c2] 32)).alloc (.cells #[] 3)).heap.size = w.heap.size + 1 + 1 := by simp
  rw [hbase] at hf
  obtain ⟨a, c3, rfl, hmax, hro⟩ := hf.open2
  have HRO := Lib.hid hro; clear hro
  have H2 := Lib.hid (H1.out.step hb)
  have HO2 := Lib.hid (HO1.out.step hb)
  clear hb hf H1 HO1 hbase
  go_wp2_with fail
  go_loopw [3, 10] (fun v i wr => ∃ m : Nat, m ≤ rs.length ∧ i = .int .i64 m ∧ Ints wr (w.heap.size + 1) v (degF rs m) ∧ Keeps (w.heap.size + 1 + 1) w1 wr ∧ (∀ k, v.ownBlock = some k → k < w.heap.size + 1 + 1 ∨ w1.heap.size ≤ k) ∧ Held w wr [(w.heap.size, 0, .slice A ns.length c), (w.heap.size, 1, .slice A2 ls.length c2)]) (fun _ i _ => rs.length - (intOf i).toNat)
  case atStart => exact ⟨0, Nat.zero_le _, rfl, by rw [HZ.out]; exact HO2.out, Keeps.refl _ _, fun k hk => by simp [Value.ownBlock] at hk; omega, H2.out⟩
  case round =>
    clear H2 HO2
    obtain ⟨m, hm, rfl, hown, hkeep, hwhere, hh⟩ := hrel
    have HO := Lib.hid hown; clear hown
    have HK := Lib.hid hkeep; clear hkeep
    have HW := Lib.hid hwhere; clear hwhere
    have H1 := Lib.hid hh; clear hh
    by_cases hlt : m < rs.length
    · have q1 : (0 : Int) ≤ m := by omega
      have q2 : (m : Int) < (rs.length : Int) := by omega
      obtain ⟨g3, rfl, hg3, hrw⟩ := HRO.out m hlt
      obtain ⟨A4, c4, k0, -⟩ := hrw wr HK.out
      have HUM := Lib.hid (HU.out m hlt)
      have hln := HLN.out m
      generalize (atR rs m).length = rl at *
      obtain ⟨hi, hz0, hz1, hz2⟩ := HI.out
      have hsz1 := H1.out.2.1.1
      go_wp2_with (at_builtin; refine wpList_append_int rfl _ _ 41 rfl Tryz.underlying41 hi hz0 hz1 hz2 (World.ownsRow.alloc HO.out _) rfl rfl (cell_new0 _ _ _) (by omega) (by simp; omega) ?_)
      intro v' w5 hown hgrow hfresh
      have H5 := Lib.hid (H1.out.stepB (B := w.heap.size + 1) ⟨Nat.lt_succ_self _, Nat.lt_succ_self _, trivial⟩ (grown_below HO.out hsz1 hgrow) (Nat.le_succ _))
      have hks := HK.out.1
      have HK5 := Lib.hid ((HK.out.below (below_alloc _ (.cells #[.int .i64 (rl : Int)] 3))).grown hgrow (fun k e => by have := HW.out k e; omega))
      have HW5 := Lib.hid (show ∀ k, v'.ownBlock = some k → k < w.heap.size + 1 + 1 ∨ w1.heap.size ≤ k from fun k hk => by
        rcases hfresh with e | e
        · exact HW.out k (by rw [← e]; exact hk)
        · rw [e] at hk
          have hk2 : wr.heap.size + 1 = k := by simpa using hk
          omega)
      have HO5 := Lib.hid (Ints.more (xs := degF rs m) (x := (rl : Int)) (by simpa using hown))
      clear hown hgrow hfresh
      go_wp2_with fail
      exact ⟨⟨m + 1, by omega, by go_num, by rw [HUM.out]; exact HO5.out, HK5.out, HW5.out, H5.out⟩, by simp [intOf]; omega⟩
    · obtain rfl : m = rs.length := by omega
      go_wp2_with fail
      go_ret
      exact ⟨_, rfl, by rw [HR.out]; exact HO.out.mono (Nat.le_succ _), H1.out.below⟩

set_option maxRecDepth 100000 in
set_option maxHeartbeats 1000000 in
theorem specDegs (ns ls : List Nd) (vn vl : Value) (w : World) (hn : Prs w vn ns) (hl : Prs w vl ls) :
    Calls Tryz.prog 32 #[.agg #[vn, vl]] w (IntsNew (degW ns ls) w) := by
  have HF := Lib.hid (fun w h1 h2 => specFacesL ns ls vn vl w h1 h2)
  unfold FacesNew at HF
  have HN := Lib.hid hn
  have HL := Lib.hid hl
  have H0 := Lib.hid (held_pair w vn vl 32)
  obtain ⟨A, c, rfl⟩ := prs_form2 hn
  obtain ⟨A2, c2, rfl⟩ := prs_form2 hl
  clear hn hl
  have h40 := wF_len (ns := ns) (ls := ls)
  have H1 := Lib.hid (H0.out.alloc (.cells #[] 3))
  have HO1 := Lib.hid (Ints.made (w.alloc (.cells #[.slice A ns.length c, .slice A2 ls.length c2] 32)) (w.heap.size + 1) (w.heap.size + 1) (by simp) (Nat.le_refl _))
  clear H0
  obtain ⟨i0, hi, hz0, hz1, hz2⟩ := info_parts infoInt
  have HI := Lib.hid (And.intro hi (And.intro hz0 (And.intro hz1 hz2))); clear hi hz0 hz1 hz2
  have HR := Lib.hid (show degW ns ls = degF (wF ns ls) (wF ns ls).length from rfl)
  have HU := Lib.hid (fun n (h : n < (wF ns ls).length) => degF_succ h)
  have HLN := Lib.hid (degF_len (wF ns ls))
  have HZ := Lib.hid (show degF (wF ns ls) 0 = [] from rfl)
  generalize degW ns ls = res at *
  generalize wF ns ls = rs at *
  go_enter Tryz.func32, Tryz.ntmps32
  go_wp2_with fail
  refine (HF.out _ (HN.out.step H1.out.below) (HL.out.step H1.out.below)).mono ?_
  rintro e w1 ⟨vf, rfl, hf, hb⟩
  have hbase : ((w.alloc (.cells #[.slice A ns.length c, .slice A2 ls.length c2] 32)).alloc (.cells #[] 3)).heap.size = w.heap.size + 1 + 1 := by simp
  rw [hbase] at hf
  obtain ⟨a, c3, rfl, hmax, hro⟩ := hf.open2
  have HRO := Lib.hid hro; clear hro
  have H2 := Lib.hid (H1.out.step hb)
  have HO2 := Lib.hid (HO1.out.step hb)
  clear hb hf H1 HO1 hbase
  go_wp2_with fail
  go_loopw [3, 5] (fun v i wr => ∃ m : Nat, m ≤ rs.length ∧ i = .int .i64 m ∧ Ints wr (w.heap.size + 1) v (degF rs m) ∧ Keeps (w.heap.size + 1 + 1) w1 wr ∧ (∀ k, v.ownBlock = some k → k < w.heap.size + 1 + 1 ∨ w1.heap.size ≤ k) ∧ Held w wr [(w.heap.size, 0, .slice A ns.length c), (w.heap.size, 1, .slice A2 ls.length c2)]) (fun _ i _ => rs.length - (intOf i).toNat)
  case atStart => exact ⟨0, Nat.zero_le _, rfl, by rw [HZ.out]; exact HO2.out, Keeps.refl _ _, fun k hk => by simp [Value.ownBlock] at hk; omega, H2.out⟩
  case round =>
    clear H2 HO2
    obtain ⟨m, hm, rfl, hown, hkeep, hwhere, hh⟩ := hrel
    have HO := Lib.hid hown; clear hown
    have HK := Lib.hid hkeep; clear hkeep
    have HW := Lib.hid hwhere; clear hwhere
    have H1 := Lib.hid hh; clear hh
    by_cases hlt : m < rs.length
    · have q1 : (0 : Int) ≤ m := by omega
      have q2 : (m : Int) < (rs.length : Int) := by omega
      obtain ⟨g3, rfl, hg3, hrw⟩ := HRO.out m hlt
      obtain ⟨A4, c4, k0, -⟩ := hrw wr HK.out
      have HUM := Lib.hid (HU.out m hlt)
      have hln := HLN.out m
      generalize (atR rs m).length = rl at *
      obtain ⟨hi, hz0, hz1, hz2⟩ := HI.out
      have hsz1 := H1.out.2.1.1
      go_wp2_with (at_builtin; refine wpList_append_int rfl _ _ 41 rfl Tryz.underlying41 hi hz0 hz1 hz2 (World.ownsRow.alloc HO.out _) rfl rfl (cell_new0 _ _ _) (by omega) (by simp; omega) ?_)
      intro v' w5 hown hgrow hfresh
      have H5 := Lib.hid (H1.out.stepB (B := w.heap.size + 1) ⟨Nat.lt_succ_self _, Nat.lt_succ_self _, trivial⟩ (grown_below HO.out hsz1 hgrow) (Nat.le_succ _))
      have hks := HK.out.1
      have HK5 := Lib.hid ((HK.out.below (below_alloc _ (.cells #[.int .i64 (rl : Int)] 3))).grown hgrow (fun k e => by have := HW.out k e; omega))
      have HW5 := Lib.hid (show ∀ k, v'.ownBlock = some k → k < w.heap.size + 1 + 1 ∨ w1.heap.size ≤ k from fun k hk => by
        rcases hfresh with e | e
        · exact HW.out k (by rw [← e]; exact hk)
        · rw [e] at hk
          have hk2 : wr.heap.size + 1 = k := by simpa using hk
          omega)
      have HO5 := Lib.hid (Ints.more (xs := degF rs m) (x := (rl : Int)) (by simpa using hown))
      clear hown hgrow hfresh
      go_wp2_with fail
      exact ⟨⟨m + 1, by omega, by go_num, by rw [HUM.out]; exact HO5.out, HK5.out, HW5.out, H5.out⟩, by simp [intOf]; omega⟩
    · obtain rfl : m = rs.length := by omega
      go_wp2_with fail
      go_ret
      exact ⟨_, rfl, by rw [HR.out]; exact HO.out.mono (Nat.le_succ _), H1.out.below⟩
end Go.Proofs.YtnonebfdognlmaaGreat
