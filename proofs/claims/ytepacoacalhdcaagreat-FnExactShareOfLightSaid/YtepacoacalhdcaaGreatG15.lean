/-
  Several texts in one: a claim has at most 60 files.
-/
import Derived.Test.YtepacoacalhdcaaGreatG13
import Derived.Test.YtepacoacalhdcaaGreatG14

namespace Go.Proofs.YtepacoacalhdcaaGreat
open Go.RowKit
set_option linter.unusedVariables false
set_option linter.unusedSimpArgs false

theorem Faces.open_ {w : World} {B : Nat} {v : Value} {rs : List (List Int)} (h : Faces w B v rs) : ∃ a c, v = .slice a rs.length c ∧ rs.length ≤ maxLen ∧ ∀ m, m < rs.length → ∃ g, a = some ⟨g, 0, none⟩ ∧ g < w.heap.size ∧
    ∀ W, Below w.heap.size w W → ∃ A4 c4, W.cell? ⟨g, m, none⟩ = some (.slice A4 (atR rs m).length c4) ∧ Seq W (.slice A4 (atR rs m).length c4) (atR rs m) := by
  obtain ⟨us, h⟩ := h
  obtain ⟨a, c, rfl, hm, hc⟩ := h.form
  refine ⟨a, c, rfl, hm, fun m hlt => ?_⟩
  obtain ⟨g, rfl, hB, hg, hcell⟩ := hc m hlt
  refine ⟨g, rfl, hg, fun W hb => ?_⟩
  have hs := ((h.each m hlt).step hb).seq
  obtain ⟨A4, c4, e, -, -, -⟩ := hs.form
  exact ⟨A4, c4, by rw [hb.cell (p := ⟨g, m, none⟩) hg, hcell, e], by rw [← e]; exact hs⟩

noncomputable def areaR (ns ls : List Nd) (r : List Int) : Int := areaL ns ls r r.length

noncomputable def outP (ns ls : List Nd) (rs : List (List Int)) (k : Nat) : Bool := decide (areaR ns ls (atR rs k) ≤ 0)

noncomputable def outW (ns ls : List Nd) : Int := firstI (outP ns ls (wF ns ls)) (wF ns ls).length

noncomputable def absR (ns ls : List Nd) (r : List Int) : Int := max (areaR ns ls r) (-(areaR ns ls r))

noncomputable def areaW (ns ls : List Nd) (f : Int) : Int := if idxB (wF ns ls).length f = true then absR ns ls (atR (wF ns ls) f.toNat) else -1

/-- The rows are walks of the window. -/
def RowsOk (ns ls : List Nd) (rs : List (List Int)) : Prop := rs.length ≤ 40 ∧ ∀ k, k < rs.length → winB ns ls = true ∧ DartsOf ls (atR rs k) ∧ (atR rs k).length ≤ 40

theorem wF_ok (ns ls : List Nd) : RowsOk ns ls (wF ns ls) := by
  refine ⟨wF_len, fun k hk => ?_⟩
  obtain ⟨hh, d, hd, e, _⟩ := wF_row hk
  obtain ⟨hw, -, -, -⟩ := whole_win hh
  refine ⟨hw, fun i hi => ?_, (row_len hk).1⟩
  rw [e] at hi ⊢
  exact walk_nat hw hd (by rw [← atZ_get hi]; exact List.getElem_mem hi)

theorem areaR_bd {ns ls : List Nd} {rs : List (List Int)} (h : RowsOk ns ls rs) {k : Nat} (hk : k < rs.length) : -16000 ≤ areaR ns ls (atR rs k) ∧ areaR ns ls (atR rs k) ≤ 16000 := by
  obtain ⟨hw, hd, h40⟩ := h.2 k hk
  have := area_bd hw hd (atR rs k).length (Nat.le_refl _)
  unfold areaR
  omega

set_option maxRecDepth 100000 in
theorem implOuter1 (ns ls : List Nd) (v1 v2 vx : Value) (l : List Int) (gb : Nat) (w : World) (hn : Prs w v1 ns) (hl : Prs w v2 ls) (hx : Seq w vx l) (hw : winB ns ls = true) (hd : DartsOf ls l) (h40 : l.length ≤ 40) (x0 : w.cell? ⟨gb, 0, none⟩ = some v1) (x1 : w.cell? ⟨gb, 1, none⟩ = some v2) :
    Calls Tryz.prog 145 #[vx, .pointer (some ⟨gb, 0, none⟩)] w (BoolIs (decide (areaR ns ls l ≤ 0)) w) := by
  have HA := Lib.hid (implAlong ns ls v1 v2 vx l w hn hl hx hw hd h40)
  unfold IntIs at HA
  have HN := Lib.hid hn
  have HL := Lib.hid hl
  obtain ⟨A, c, rfl⟩ := prs_form2 hn
  obtain ⟨A2, c2, rfl⟩ := prs_form2 hl
  clear hn hl
  obtain ⟨A3, c3, rfl⟩ := seq_form2 hx
  clear hx hd hw
  unfold areaR
  generalize areaL ns ls l l.length = a at *
  by_cases ha : a ≤ 0
  · have HAA := Lib.hid ha
    go_enter Tryz.func145, Tryz.ntmps145
    go_wp2_with fail
    refine HA.out.mono ?_
    rintro e w1 ⟨rfl, hb⟩
    have HB := Lib.hid hb; clear hb
    go_wp2_with fail
    go_ret
    exact ⟨ret_bool (by simp [HAA.out]), HB.out⟩
  · have HAA := Lib.hid ha
    have ha2 : 0 < a := by omega
    go_enter Tryz.func145, Tryz.ntmps145
    go_wp2_with fail
    refine HA.out.mono ?_
    rintro e w1 ⟨rfl, hb⟩
    have HB := Lib.hid hb; clear hb
    go_wp2_with fail
    go_ret
    exact ⟨ret_bool (by simp [HAA.out]), HB.out⟩

set_option maxRecDepth 100000 in
set_option maxHeartbeats 1000000 in
theorem implIndexF (ns ls : List Nd) (v1 v2 v3 : Value) (rs : List (List Int)) (B gb : Nat) (w : World) (hn : Prs w v1 ns) (hl : Prs w v2 ls) (hf : Faces w B v3 rs) (hok : RowsOk ns ls rs) (x0 : w.cell? ⟨gb, 0, none⟩ = some v1) (x1 : w.cell? ⟨gb, 1, none⟩ = some v2) (hgb : gb < w.heap.size) :
    Calls Tryz.prog 144 #[v3, .func (.func 145) #[] #[.pointer (some ⟨gb, 0, none⟩)]] w (IntIs (firstI (outP ns ls rs) rs.length) w) := by
  obtain ⟨a, c3, rfl, hmax, hro⟩ := hf.open_
  have HRO := Lib.hid hro
  have H0 := Lib.hid (Held.start (w := w) (fs := [(gb, 0, v1), (gb, 1, v2)]) ⟨x0, x1, trivial⟩ ⟨hgb, hgb, trivial⟩)
  have HO1 := Lib.hid (fun W vx l hn hl hx hw hd h4 y0 y1 => implOuter1 ns ls v1 v2 vx l gb W hn hl hx hw hd h4 y0 y1)
  unfold BoolIs at HO1
  have HN := Lib.hid hn
  have HL := Lib.hid hl
  have HOK := Lib.hid hok.2
  have h40 := hok.1
  have HNO := Lib.hid (fun h => firstI_none (p := outP ns ls rs) rs.length h)
  have HYE := Lib.hid (fun m (hm : m < rs.length) h1 h2 => firstI_at (p := outP ns ls rs) (m := m) h1 h2 rs.length hm)
  have HP := Lib.hid (fun k => show outP ns ls rs k = decide (areaR ns ls (atR rs k) ≤ 0) from rfl)
  clear hro hf hn hl hok x0 x1
  generalize firstI (outP ns ls rs) rs.length = res at *
  generalize outP ns ls rs = p at *
  generalize areaR ns ls = ar at *
  go_enter Tryz.func144, Tryz.ntmps144
  go_wp2_with fail
  go_loopw [8] (fun i wr => ∃ m : Nat, m ≤ rs.length ∧ i = .int .i64 m ∧ (∀ j, j < m → p j = false) ∧ Held w wr [(gb, 0, v1), (gb, 1, v2)]) (fun i _ => rs.length - (intOf i).toNat)
  case atStart => exact ⟨0, Nat.zero_le _, rfl, fun j hj => by omega, H0.out⟩
  case round =>
    clear H0
    obtain ⟨m, hm, rfl, hz, hh⟩ := hrel
    have HZ := Lib.hid hz; clear hz
    have H1 := Lib.hid hh; clear hh
    by_cases hlt : m < rs.length
    · obtain ⟨g3, rfl, hg3, hrw⟩ := HRO.out m hlt
      obtain ⟨A4, c4, k0, hsq⟩ := hrw wr H1.out.below
      have HSQ := Lib.hid hsq
      obtain ⟨hw, hd, h4⟩ := HOK.out m hlt
      have HC := Lib.hid (HO1.out wr _ _ (HN.out.step H1.out.below) (HL.out.step H1.out.below) HSQ.out hw hd h4 H1.out.1.1 H1.out.1.2.1)
      rw [← HP.out m] at HC
      clear hw hd hsq hrw
      have q1 : (0 : Int) ≤ m := by omega
      have q2 : (m : Int) < (rs.length : Int) := by omega
      by_cases hp : p m = true
      · rw [hp] at HC
        have HPM := Lib.hid hp; clear hp
        go_wp2_with fail
        refine HC.out.mono ?_
        rintro e w2 ⟨rfl, hb⟩
        have H2 := Lib.hid (H1.out.step hb); clear hb
        go_wp2_with fail
        go_ret
        exact ⟨ret_int (HYE.out m hlt HZ.out HPM.out).symm, H2.out.below⟩
      · have hpf : p m = false := by simpa using hp
        rw [hpf] at HC
        have HPM := Lib.hid hpf; clear hp hpf
        go_wp2_with fail
        refine HC.out.mono ?_
        rintro e w2 ⟨rfl, hb⟩
        have H2 := Lib.hid (H1.out.step hb); clear hb
        go_wp2_with fail
        exact ⟨⟨m + 1, by omega, by go_num, fun j hj => by
          by_cases e : j = m
          · subst e; exact HPM.out
          · exact HZ.out j (by omega), H2.out⟩, by simp [intOf]; omega⟩
    · obtain rfl : m = rs.length := by omega
      go_wp2_with fail
      go_ret
      exact ⟨ret_int (HNO.out HZ.out).symm, H1.out.below⟩

theorem heldG (w : World) (v1 v2 v3 v4 : Value) (T : TypeId) : Held w (w.alloc (.cells #[v1, v2, v3, v4] T)) [(w.heap.size, 0, v1), (w.heap.size, 1, v2), (w.heap.size, 2, v3), (w.heap.size, 3, v4)] :=
  (Held.none_ w).new2 w.heap.size rfl [v1, v2, v3, v4] T

theorem faces_form {w : World} {B : Nat} {v : Value} {rs : List (List Int)} (h : Faces w B v rs) : ∃ a c, v = .slice a rs.length c := by obtain ⟨a, c, e, -⟩ := h.open_; exact ⟨a, c, e⟩

theorem ints_form {w : World} {B : Nat} {v : Value} {xs : List Int} (h : Ints w B v xs) : ∃ a c, v = .slice a xs.length c := by obtain ⟨a, c, e, -⟩ := h.form; exact ⟨a, c, e⟩

set_option maxRecDepth 100000 in
theorem implOuter (ns ls : List Nd) (v1 v2 v3 v4 : Value) (rs : List (List Int)) (ds : List Int) (B : Nat) (w : World) (hn : Prs w v1 ns) (hl : Prs w v2 ls) (hf : Faces w B v3 rs) (ha : Ints w B v4 ds) (hok : RowsOk ns ls rs) :
    Calls Tryz.prog 91 #[.agg #[v1, v2, v3, v4]] w (IntIs (firstI (outP ns ls rs) rs.length) w) := by
  have H0 := Lib.hid (heldG w v1 v2 v3 v4 98)
  have HI := Lib.hid (implIndexF ns ls v1 v2 v3 rs B w.heap.size _ (hn.step H0.out.below) (hl.step H0.out.below) (hf.step H0.out.below) hok H0.out.1.1 H0.out.1.2.1 (by simp))
  unfold IntIs at HI
  have HN := Lib.hid hn
  have HL := Lib.hid hl
  obtain ⟨A, c, rfl⟩ := prs_form2 hn
  obtain ⟨A2, c2, rfl⟩ := prs_form2 hl
  clear hn hl
  obtain ⟨A3, c3, rfl⟩ := faces_form hf
  obtain ⟨A4, c4, rfl⟩ := ints_form ha
  clear hf ha hok
  generalize firstI (outP ns ls rs) rs.length = res at *
  go_enter Tryz.func91, Tryz.ntmps91
  go_wp2_with fail
  refine HI.out.mono ?_
  rintro e w1 ⟨rfl, hb⟩
  have H1 := Lib.hid (H0.out.step hb); clear hb
  go_wp2_with fail
  go_ret
  exact ⟨rfl, H1.out.below⟩

set_option maxRecDepth 100000 in
theorem implHasFace (A1 A2 A3 A4 : Option Addr) (n1 c1 n2 c2 n3 c3 n4 c4 : Nat) (f : Int) (w : World) (hf : n3 ≤ 1000000) :
    Calls Tryz.prog 112 #[.agg #[.slice A1 n1 c1, .slice A2 n2 c2, .slice A3 n3 c3, .slice A4 n4 c4], .int .i64 f] w (BoolIs (idxB n3 f) w) := by
  have H0 := Lib.hid (heldG w (.slice A1 n1 c1) (.slice A2 n2 c2) (.slice A3 n3 c3) (.slice A4 n4 c4) 98)
  have HI := Lib.hid (idxB_iff n3 f)
  generalize idxB n3 f = b at *
  by_cases h0 : 0 ≤ f
  · by_cases h1 : f < (n3 : Int)
    · have HR := Lib.hid (show b = true from HI.out.2 ⟨h0, h1⟩)
      go_enter Tryz.func112, Tryz.ntmps112
      go_wp2_with fail
      go_ret
      exact ⟨ret_bool HR.out.symm, H0.out.below⟩
    · have HR := Lib.hid (show b = false from by rw [Bool.eq_false_iff]; intro e; exact h1 (HI.out.1 e).2)
      go_enter Tryz.func112, Tryz.ntmps112
      go_wp2_with fail
      go_ret
      exact ⟨ret_bool HR.out.symm, H0.out.below⟩
  · have HR := Lib.hid (show b = false from by rw [Bool.eq_false_iff]; intro e; exact h0 (HI.out.1 e).1)
    go_enter Tryz.func112, Tryz.ntmps112
    go_wp2_with fail
    go_ret
    exact ⟨ret_bool HR.out.symm, H0.out.below⟩

set_option maxRecDepth 100000 in
set_option maxHeartbeats 1000000 in
theorem implArea (ns ls : List Nd) (v1 v2 v3 v4 : Value) (rs : List (List Int)) (ds : List Int) (B k : Nat) (w : World) (hn : Prs w v1 ns) (hl : Prs w v2 ls) (hf : Faces w B v3 rs) (ha : Ints w B v4 ds) (hok : RowsOk ns ls rs) (hk : k < rs.length) :
    Calls Tryz.prog 81 #[.agg #[v1, v2, v3, v4], .int .i64 k] w (IntIs (absR ns ls (atR rs k)) w) := by
  have HG := Lib.hid (heldG w v1 v2 v3 v4 98)
  obtain ⟨a, c3, rfl, hmax, hro⟩ := hf.open_
  obtain ⟨g3, rfl, hg3, hrw⟩ := hro k hk
  obtain ⟨A5, c5, k0, hsq⟩ := hrw w (Below.refl _ _)
  obtain ⟨hw, hd, h4⟩ := hok.2 k hk
  have h40 := hok.1
  have HA := Lib.hid (fun w hn hl hx => implAlong ns ls v1 v2 (.slice A5 (atR rs k).length c5) (atR rs k) w hn hl hx hw hd h4)
  unfold IntIs at HA
  have hbd := areaR_bd hok hk
  unfold areaR at hbd
  have HX := Lib.hid hsq
  have HN := Lib.hid hn
  have HL := Lib.hid hl
  obtain ⟨A, c, rfl⟩ := prs_form2 hn
  obtain ⟨A2, c2, rfl⟩ := prs_form2 hl
  clear hn hl
  obtain ⟨A4, c4, rfl⟩ := ints_form ha
  have HR := Lib.hid (show absR ns ls (atR rs k) = max (areaL ns ls (atR rs k) (atR rs k).length) (-(areaL ns ls (atR rs k) (atR rs k).length)) from rfl)
  have H0 := Lib.hid (show Held w (w.alloc _) [(w.heap.size, 0, .slice A ns.length c), (w.heap.size, 1, .slice A2 ls.length c2), (w.heap.size, 2, .slice (some ⟨g3, 0, none⟩) rs.length c3), (w.heap.size, 3, .slice A4 ds.length c4), (g3, k, .slice A5 (atR rs k).length c5)] from
    ⟨⟨HG.out.1.1, HG.out.1.2.1, HG.out.1.2.2.1, HG.out.1.2.2.2.1, by rw [HG.out.below.cell (p := ⟨g3, k, none⟩) hg3]; exact k0, trivial⟩, ⟨HG.out.2.1.1, HG.out.2.1.1, HG.out.2.1.1, HG.out.2.1.1, Nat.lt_of_lt_of_le hg3 HG.out.below.size, trivial⟩, HG.out.below⟩)
  clear HG hro hrw k0 hsq hw hd hok hf ha
  generalize absR ns ls (atR rs k) = res at *
  generalize areaL ns ls (atR rs k) (atR rs k).length = ar at *
  generalize (atR rs k).length = rl at *
  have q1 : (0 : Int) ≤ k := by omega
  have q2 : (k : Int) < (rs.length : Int) := by omega
  go_enter Tryz.func81, Tryz.ntmps81
  go_wp2_with fail
  refine regionD (S := fun W => Held _ W [(w.heap.size, 0, .slice A ns.length c), (w.heap.size, 1, .slice A2 ls.length c2), (w.heap.size, 2, .slice (some ⟨g3, 0, none⟩) rs.length c3), (w.heap.size, 3, .slice A4 ds.length c4), (g3, k, .slice A5 rl c5)]) (by kernel_rfl) H0.out.drew ?_
  iterate 9 (refine takeT (v := ?_) rfl (by kernel_rfl) (by kernel_rfl) (by kernel_rfl) ?_ ?_; rotate_left; (first | (refine Or.inr ⟨by rfl, ?_⟩; with_reducible rfl) | (refine Or.inl ⟨by rfl, fun W hS => detRes_value (w' := W) ?_ hS⟩; obtain ⟨x0, x1, x2, x3, x4, _⟩ := hS.1; go_simp; first | done | with_reducible rfl) | (refine Or.inl ⟨by rfl, fun W hS => ?_⟩; refine detRes_call (w' := W) (f := ?_) (args := ?_) ?_ ?_; rotate_left 2; (go_simp; (refine ⟨?_, ?_⟩ <;> with_reducible rfl)); (first | (with_reducible refine (HA.out _ (HN.out.step hS.below) (HL.out.step hS.below) (HX.out.step hS.below)).mono ?_) | fail); (first | (rintro e wn ⟨rfl, hb⟩; refine ⟨?_, hS.step hb⟩; with_reducible rfl) | (rintro e wn ⟨rfl, rfl⟩; refine ⟨?_, hS⟩; with_reducible rfl) | fail)) | fail); (simp only [Act.put, List.setIfInBounds_toArray, List.set_cons_zero, List.set_cons_succ]))
  refine doneD (by kernel_rfl) fun wH1 HS => ?_
  have H1 := Lib.hid HS; clear HS
  try clear x0 x1 x2 x3 x4
  obtain ⟨x0, x1, x2, x3, x4, _⟩ := H1.out.1
  go_wp2_with fail
  go_ret
  exact ⟨ret_int HR.out.symm, H1.out.below⟩

def gN (ns ls : List Nd) : List Nd := if wholeB ns ls = true then ns else []

def gL (ns ls : List Nd) : List Nd := if wholeB ns ls = true then ls else []

noncomputable def gA (ns ls : List Nd) : List Int := if wholeB ns ls = true then atW ns ls else []

/-- What glassOf returns. -/
def GlassNew (ns ls : List Nd) (w : World) (e : Ending) (w' : World) : Prop :=
  ∃ v1 v2 v3 v4, e = .returned (.tuple #[.agg #[v1, v2, v3, v4], .bool (wholeB ns ls)]) ∧ Prs w' v1 (gN ns ls) ∧ Prs w' v2 (gL ns ls) ∧ Faces w' w.heap.size v3 (wF ns ls) ∧ Ints w' w.heap.size v4 (gA ns ls) ∧ Below w.heap.size w w'

theorem prs_nil (w : World) : Prs w (.slice none 0 0) [] := ⟨none, 0, rfl, Nat.le_refl _, by unfold maxLen; omega, fun h => by simp at h⟩

theorem implGlass (ns ls : List Nd) (vn vl : Value) (w : World) (hn : Prs w vn ns) (hl : Prs w vl ls) :
    Calls Tryz.prog 74 #[.agg #[vn, vl]] w (GlassNew ns ls w) := by
  by_cases hh : wholeB ns ls = true
  · refine (implGlassYes ns ls vn vl w hn hl hh).mono ?_
    rintro e w' ⟨vf, va, rfl, hf, ha, hb⟩
    refine ⟨vn, vl, vf, va, by rw [hh], ?_, ?_, ?_, ?_, hb⟩
    · unfold gN; rw [if_pos hh]; exact hn.step hb
    · unfold gL; rw [if_pos hh]; exact hl.step hb
    · unfold wF; rw [if_pos hh]; exact hf
    · unfold gA; rw [if_pos hh]; exact ha
  · have hf : wholeB ns ls = false := by simpa using hh
    refine (implGlassNo ns ls vn vl w hn hl hf).mono ?_
    rintro e w' ⟨rfl, hb⟩
    refine ⟨_, _, _, _, by rw [hf], ?_, ?_, ?_, ?_, hb⟩
    · unfold gN; rw [if_neg hh]; exact prs_nil _
    · unfold gL; rw [if_neg hh]; exact prs_nil _
    · unfold wF; rw [if_neg hh]; exact Faces.nil _ _
    · unfold gA; rw [if_neg hh]; exact Ints.nil _ _

theorem g_ok (ns ls : List Nd) : RowsOk (gN ns ls) (gL ns ls) (wF ns ls) := by
  by_cases hh : wholeB ns ls = true
  · have := wF_ok ns ls
    unfold gN gL
    rw [if_pos hh, if_pos hh]
    exact this
  · unfold wF
    rw [if_neg hh]
    exact ⟨by simp, fun k hk => by simp at hk⟩

theorem g_areaR {ns ls : List Nd} {k : Nat} (h : k < (wF ns ls).length) (r : List Int) : areaR (gN ns ls) (gL ns ls) r = areaR ns ls r := by
  have hh := (wF_row h).1
  unfold gN gL
  rw [if_pos hh, if_pos hh]

theorem g_outer (ns ls : List Nd) : firstI (outP (gN ns ls) (gL ns ls) (wF ns ls)) (wF ns ls).length = outW ns ls := by
  unfold outW
  exact firstI_congr _ fun j hj => by unfold outP; rw [g_areaR hj]

set_option maxRecDepth 100000 in
theorem implOuterFace (ns ls : List Nd) (vn vl : Value) (w : World) (hn : Prs w vn ns) (hl : Prs w vl ls) :
    Calls Tryz.prog 168 #[.agg #[vn, vl]] w (IntIs (outW ns ls) w) := by
  have HO := Lib.hid (fun v1 v2 v3 v4 B w h1 h2 h3 h4 => implOuter (gN ns ls) (gL ns ls) v1 v2 v3 v4 (wF ns ls) (gA ns ls) B w h1 h2 h3 h4 (g_ok ns ls))
  rw [g_outer] at HO
  unfold IntIs at HO
  have HN := Lib.hid hn
  have HL := Lib.hid hl
  have HGL := Lib.hid (fun w h1 h2 => implGlass ns ls vn vl w h1 h2)
  unfold GlassNew at HGL
  have H0 := Lib.hid (held_pair w vn vl 32)
  obtain ⟨A, c, rfl⟩ := prs_form2 hn
  obtain ⟨A2, c2, rfl⟩ := prs_form2 hl
  clear hn hl
  generalize outW ns ls = res at *
  generalize gN ns ls = ns' at *
  generalize gL ns ls = ls' at *
  generalize gA ns ls = ds at *
  generalize wF ns ls = rs at *
  generalize wholeB ns ls = ok at *
  go_enter Tryz.func168, Tryz.ntmps168
  go_wp2_with fail
  refine (HGL.out _ (HN.out.step H0.out.below) (HL.out.step H0.out.below)).mono ?_
  rintro e w1 ⟨v1, v2, v3, v4, rfl, g1, g2, g3, g4, hb⟩
  have H1 := Lib.hid (H0.out.step hb)
  have G0 := Lib.hid (heldG w1 v1 v2 v3 v4 98)
  have B1 := Lib.hid (H1.out.below.trans (G0.out.below.mono H1.out.below.size))
  have G1 := Lib.hid (g1.step G0.out.below)
  have G2 := Lib.hid (g2.step G0.out.below)
  have G3 := Lib.hid (g3.step G0.out.below)
  have G4 := Lib.hid (g4.step G0.out.below)
  obtain ⟨A5, c5, rfl⟩ := prs_form2 g1
  obtain ⟨A6, c6, rfl⟩ := prs_form2 g2
  obtain ⟨A7, c7, rfl⟩ := faces_form g3
  obtain ⟨A8, c8, rfl⟩ := ints_form g4
  clear hb g1 g2 g3 g4
  obtain ⟨x0, x1, _⟩ := H1.out.1
  obtain ⟨y0, y1, y2, y3, _⟩ := G0.out.1
  go_wp2_with fail
  refine (HO.out _ _ _ _ _ _ G1.out G2.out G3.out G4.out).mono ?_
  rintro e w2 ⟨rfl, hb⟩
  have H2 := Lib.hid (B1.out.trans (hb.mono B1.out.size)); clear hb
  go_wp2_with fail
  go_ret
  exact ⟨rfl, H2.out⟩

end Go.Proofs.YtepacoacalhdcaaGreat

namespace Go.Proofs.YtepacoacalhdcaaGreat
open Go.RowKit
set_option linter.unusedVariables false
set_option linter.unusedSimpArgs false

theorem g_area {ns ls : List Nd} {k : Nat} (h : k < (wF ns ls).length) : absR (gN ns ls) (gL ns ls) (atR (wF ns ls) k) = areaW ns ls k := by
  unfold areaW absR
  rw [g_areaR h, if_pos ((idxB_iff _ _).2 (by omega))]
  rfl

theorem g_noarea {ns ls : List Nd} {f : Int} (h : idxB (wF ns ls).length f = false) : areaW ns ls f = -1 := by
  unfold areaW
  rw [if_neg (by rw [h]; simp)]

theorem idx_nat {n : Nat} {f : Int} (h : idxB n f = true) : ∃ k : Nat, f = k ∧ k < n := by
  have := (idxB_iff n f).1 h
  exact ⟨f.toNat, by omega, by omega⟩

set_option maxRecDepth 100000 in
theorem implAreaOf (ns ls : List Nd) (vn vl : Value) (f : Int) (w : World) (hn : Prs w vn ns) (hl : Prs w vl ls) :
    Calls Tryz.prog 167 #[.agg #[vn, vl], .int .i64 f] w (IntIs (areaW ns ls f) w) := by
  have HH := Lib.hid (fun (A1 A2 A3 A4 : Option Addr) (n1 c1 n2 c2 c3 n4 c4 : Nat) w => implHasFace A1 A2 A3 A4 n1 c1 n2 c2 (wF ns ls).length c3 n4 c4 f w (by have := wF_len (ns := ns) (ls := ls); omega))
  unfold BoolIs at HH
  by_cases hf : idxB (wF ns ls).length f = true
  · obtain ⟨k, rfl, hk⟩ := idx_nat hf
    have HA := Lib.hid (fun v1 v2 v3 v4 B w h1 h2 h3 h4 => implArea (gN ns ls) (gL ns ls) v1 v2 v3 v4 (wF ns ls) (gA ns ls) B k w h1 h2 h3 h4 (g_ok ns ls) hk)
    rw [g_area hk] at HA
    unfold IntIs at HA
    rw [hf] at HH
    clear hf hk
    have HN := Lib.hid hn
    have HL := Lib.hid hl
    have HGL := Lib.hid (fun w h1 h2 => implGlass ns ls vn vl w h1 h2)
    unfold GlassNew at HGL
    have H0 := Lib.hid (held_pair w vn vl 32)
    obtain ⟨A, c, rfl⟩ := prs_form2 hn
    obtain ⟨A2, c2, rfl⟩ := prs_form2 hl
    clear hn hl
    generalize areaW ns ls (k : Int) = res at *
    generalize gN ns ls = ns' at *
    generalize gL ns ls = ls' at *
    generalize gA ns ls = ds at *
    generalize wF ns ls = rs at *
    generalize wholeB ns ls = ok at *
    go_enter Tryz.func167, Tryz.ntmps167
    go_wp2_with fail
    refine (HGL.out _ (HN.out.step H0.out.below) (HL.out.step H0.out.below)).mono ?_
    rintro e w1 ⟨v1, v2, v3, v4, rfl, g1, g2, g3, g4, hb⟩
    have H1 := Lib.hid (H0.out.step hb)
    have G0 := Lib.hid (heldG w1 v1 v2 v3 v4 98)
    have B1 := Lib.hid (H1.out.below.trans (G0.out.below.mono H1.out.below.size))
    have G1 := Lib.hid (g1.step G0.out.below)
    have G2 := Lib.hid (g2.step G0.out.below)
    have G3 := Lib.hid (g3.step G0.out.below)
    have G4 := Lib.hid (g4.step G0.out.below)
    obtain ⟨A5, c5, rfl⟩ := prs_form2 g1
    obtain ⟨A6, c6, rfl⟩ := prs_form2 g2
    obtain ⟨A7, c7, rfl⟩ := faces_form g3
    obtain ⟨A8, c8, rfl⟩ := ints_form g4
    clear hb g1 g2 g3 g4
    obtain ⟨x0, x1, _⟩ := H1.out.1
    obtain ⟨y0, y1, y2, y3, _⟩ := G0.out.1
    go_wp2_with fail
    refine (HH.out _ _ _ _ _ _ _ _ _ _ _ _).mono ?_
    rintro e w2 ⟨rfl, hb⟩
    have B2 := Lib.hid (B1.out.trans (hb.mono B1.out.size))
    have G5 := Lib.hid (G1.out.step hb)
    have G6 := Lib.hid (G2.out.step hb)
    have G7 := Lib.hid (G3.out.step hb)
    have G8 := Lib.hid (G4.out.step hb)
    have G9 := Lib.hid (G0.out.step hb)
    clear hb x0 x1 y0 y1 y2 y3
    obtain ⟨y0, y1, y2, y3, _⟩ := G9.out.1
    go_wp2_with fail
    refine (HA.out _ _ _ _ _ _ G5.out G6.out G7.out G8.out).mono ?_
    rintro e w3 ⟨rfl, hb⟩
    have B3 := Lib.hid (B2.out.trans (hb.mono B2.out.size)); clear hb
    go_wp2_with fail
    go_ret
    exact ⟨rfl, B3.out⟩
  · have hff : idxB (wF ns ls).length f = false := by simpa using hf
    have HR := Lib.hid (g_noarea hff)
    rw [hff] at HH
    clear hf hff
    have HN := Lib.hid hn
    have HL := Lib.hid hl
    have HGL := Lib.hid (fun w h1 h2 => implGlass ns ls vn vl w h1 h2)
    unfold GlassNew at HGL
    have H0 := Lib.hid (held_pair w vn vl 32)
    obtain ⟨A, c, rfl⟩ := prs_form2 hn
    obtain ⟨A2, c2, rfl⟩ := prs_form2 hl
    clear hn hl
    generalize areaW ns ls f = res at *
    generalize gN ns ls = ns' at *
    generalize gL ns ls = ls' at *
    generalize gA ns ls = ds at *
    generalize wF ns ls = rs at *
    generalize wholeB ns ls = ok at *
    go_enter Tryz.func167, Tryz.ntmps167
    go_wp2_with fail
    refine (HGL.out _ (HN.out.step H0.out.below) (HL.out.step H0.out.below)).mono ?_
    rintro e w1 ⟨v1, v2, v3, v4, rfl, g1, g2, g3, g4, hb⟩
    have H1 := Lib.hid (H0.out.step hb)
    have G0 := Lib.hid (heldG w1 v1 v2 v3 v4 98)
    have B1 := Lib.hid (H1.out.below.trans (G0.out.below.mono H1.out.below.size))
    have G1 := Lib.hid (g1.step G0.out.below)
    have G2 := Lib.hid (g2.step G0.out.below)
    have G3 := Lib.hid (g3.step G0.out.below)
    have G4 := Lib.hid (g4.step G0.out.below)
    obtain ⟨A5, c5, rfl⟩ := prs_form2 g1
    obtain ⟨A6, c6, rfl⟩ := prs_form2 g2
    obtain ⟨A7, c7, rfl⟩ := faces_form g3
    obtain ⟨A8, c8, rfl⟩ := ints_form g4
    clear hb g1 g2 g3 g4
    obtain ⟨x0, x1, _⟩ := H1.out.1
    obtain ⟨y0, y1, y2, y3, _⟩ := G0.out.1
    go_wp2_with fail
    refine (HH.out _ _ _ _ _ _ _ _ _ _ _ _).mono ?_
    rintro e w2 ⟨rfl, hb⟩
    have B2 := Lib.hid (B1.out.trans (hb.mono B1.out.size))
    clear hb x0 x1 y0 y1 y2 y3
    go_wp2_with fail
    go_ret
    exact ⟨ret_int HR.out.symm, B2.out⟩

noncomputable def totalW (ns ls : List Nd) : Int := areaW ns ls (outW ns ls)

set_option maxRecDepth 100000 in
theorem implTotal (ns ls : List Nd) (vn vl : Value) (w : World) (hn : Prs w vn ns) (hl : Prs w vl ls) :
    Calls Tryz.prog 121 #[.agg #[vn, vl]] w (IntIs (totalW ns ls) w) := by
  have HN := Lib.hid hn
  have HL := Lib.hid hl
  have HO := Lib.hid (fun w h1 h2 => implOuterFace ns ls vn vl w h1 h2)
  have HA := Lib.hid (fun w h1 h2 => implAreaOf ns ls vn vl (outW ns ls) w h1 h2)
  unfold IntIs at HO HA
  have H0 := Lib.hid (held_pair w vn vl 32)
  obtain ⟨A, c, rfl⟩ := prs_form2 hn
  obtain ⟨A2, c2, rfl⟩ := prs_form2 hl
  clear hn hl
  have HR := Lib.hid (show totalW ns ls = areaW ns ls (outW ns ls) from rfl)
  generalize totalW ns ls = res at *
  generalize outW ns ls = o at *
  generalize areaW ns ls o = ar at *
  go_enter Tryz.func121, Tryz.ntmps121
  go_wp2_with fail
  refine regionD (S := fun W => Held _ W [(w.heap.size, 0, .slice A ns.length c), (w.heap.size, 1, .slice A2 ls.length c2)]) (by kernel_rfl) H0.out.drew ?_
  iterate 5 (refine takeT (v := ?_) rfl (by kernel_rfl) (by kernel_rfl) (by kernel_rfl) ?_ ?_; rotate_left; (first | (refine Or.inr ⟨by rfl, ?_⟩; with_reducible rfl) | (refine Or.inl ⟨by rfl, fun W hS => detRes_value (w' := W) ?_ hS⟩; obtain ⟨x0, x1, _⟩ := hS.1; go_simp; first | done | with_reducible rfl) | (refine Or.inl ⟨by rfl, fun W hS => ?_⟩; refine detRes_call (w' := W) (f := ?_) (args := ?_) ?_ ?_; rotate_left 2; (go_simp; (refine ⟨?_, ?_⟩ <;> with_reducible rfl)); (first | (with_reducible refine (HO.out _ (HN.out.step hS.below) (HL.out.step hS.below)).mono ?_) | (with_reducible refine (HA.out _ (HN.out.step hS.below) (HL.out.step hS.below)).mono ?_) | fail); (first | (rintro e wn ⟨rfl, hb⟩; refine ⟨?_, hS.step hb⟩; with_reducible rfl) | (rintro e wn ⟨rfl, rfl⟩; refine ⟨?_, hS⟩; with_reducible rfl) | fail)) | fail); (simp only [Act.put, List.setIfInBounds_toArray, List.set_cons_zero, List.set_cons_succ]))
  refine doneD (by kernel_rfl) fun wH1 HS => ?_
  have H1 := Lib.hid HS; clear HS
  try clear x0 x1
  obtain ⟨x0, x1, _⟩ := H1.out.1
  go_wp2_with fail
  go_ret
  exact ⟨ret_int HR.out.symm, H1.out.below⟩

/-- The face to the left of a dart. -/
noncomputable def faceW (ns ls : List Nd) (d : Int) : Int := faceI (wF ns ls) d

theorem faceW_in {ns ls : List Nd} {d : Nat} (hh : wholeB ns ls = true) (hd : d < 2 * ls.length) : faceW ns ls d = atZ (atW ns ls) d := by
  unfold faceW wF
  rw [if_pos hh]
  exact (atW_face (whole_win hh).1 hd).1.symm

theorem faceW_out {ns ls : List Nd} {d : Int} (h : ¬ (wholeB ns ls = true ∧ idxB (2 * ls.length) d = true)) : faceW ns ls d = -1 := by
  refine faceI_unseen ?_
  rw [Bool.eq_false_iff]
  intro hs
  obtain ⟨hh, q, rfl, hq⟩ := wF_dart hs
  exact h ⟨hh, (idxB_iff _ _).2 (by omega)⟩

end Go.Proofs.YtepacoacalhdcaaGreat
