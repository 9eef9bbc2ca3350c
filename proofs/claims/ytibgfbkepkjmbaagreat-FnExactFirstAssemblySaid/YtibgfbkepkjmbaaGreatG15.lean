/-
  Several texts in one: a claim has at most 60 files.
-/
import Derived.Test.YtibgfbkepkjmbaaGreatG13
import Derived.Test.YtibgfbkepkjmbaaGreatG14

namespace Go.Proofs.YtibgfbkepkjmbaaGreat
open Go.RowKit
set_option linter.unusedVariables false
set_option linter.unusedSimpArgs false

theorem Faces.open_ {w : World} {B : Nat} {v : Value} {rs : List (List Int)} (h : Faces w B v rs) : ∃ a c, v = .slice a rs.length c ∧ rs.length ≤ maxLen ∧ ∀ m, m < rs.length → ∃ g, a = some ⟨g, 0, none⟩ ∧ g < w.heap.size ∧
    ∀ W, Below w.heap.size w W → ∃ A4 c4, W.cell? ⟨g, m, none⟩ = some (.slice A4 (atR rs m).length c4) ∧ Seq W (.slice A4 (atR rs m).length c4) (atR rs m) := by
  obtain ⟨us, h⟩ := h
  obtain ⟨a, c, rfl, hm, hc⟩ := h.form
  refine ⟨a, c, rfl, hm, fun m hlt => ?_⟩
  obtain ⟨g, rfl, hB, hg, hcell⟩ := hc m hlt
  refine ⟨g, rfl, hg, fun W hb => ?_⟩
  have hs := ((h.each m hlt).step hb).seq
  obtain ⟨A4, c4, e, -, -, -⟩ := hs.form
  exact ⟨A4, c4, by rw [hb.cell (p := ⟨g, m, none⟩) hg, hcell, e], by rw [← e]; exact hs⟩

noncomputable def areaR (ns ls : List Nd) (r : List Int) : Int := areaL ns ls r r.length

noncomputable def outP (ns ls : List Nd) (rs : List (List Int)) (k : Nat) : Bool := decide (areaR ns ls (atR rs k) ≤ 0)

noncomputable def outW (ns ls : List Nd) : Int := firstI (outP ns ls (wF ns ls)) (wF ns ls).length

noncomputable def absR (ns ls : List Nd) (r : List Int) : Int := max (areaR ns ls r) (-(areaR ns ls r))

noncomputable def areaW (ns ls : List Nd) (f : Int) : Int := if idxB (wF ns ls).length f = true then absR ns ls (atR (wF ns ls) f.toNat) else -1

/-- The rows are walks of the window. -/
def RowsOk (ns ls : List Nd) (rs : List (List Int)) : Prop := rs.length ≤ 40 ∧ ∀ k, k < rs.length → winB ns ls = true ∧ DartsOf ls (atR rs k) ∧ (atR rs k).length ≤ 40

theorem wF_ok (ns ls : List Nd) : RowsOk ns ls (wF ns ls) := by
  refine ⟨wF_len, fun k hk => ?_⟩
  obtain ⟨hh, d, hd, e, _⟩ := wF_row hk
  obtain ⟨hw, -, -, -⟩ := whole_win hh
  refine ⟨hw, fun i hi => ?_, (row_len hk).1⟩
  rw [e] at hi ⊢
  exact walk_nat hw hd (by rw [← atZ_get hi]; exact List.getElem_mem hi)

theorem areaR_bd {ns ls : List Nd} {rs : List (List Int)} (h : RowsOk ns ls rs) {k : Nat} (hk : k < rs.length) : -16000 ≤ areaR ns ls (atR rs k) ∧ areaR ns ls (atR rs k) ≤ 16000 := by
  obtain ⟨hw, hd, h40⟩ := h.2 k hk
  have := area_bd hw hd (atR rs k).length (Nat.le_refl _)
  unfold areaR
  omega

set_option maxRecDepth 100000 in
theorem implOuter1 (ns ls : List Nd) (v1 v2 vx : Value) (l : List Int) (gb : Nat) (w : World) (hn : Prs w v1 ns) (hl : Prs w v2 ls) (hx : Seq w vx l) (hw : winB ns ls = true) (hd : DartsOf ls l) (h40 : l.length ≤ 40) (x0 : w.cell? ⟨gb, 0, none⟩ = some v1) (x1 : w.cell? ⟨gb, 1, none⟩ = some v2) :
    Calls Tryz.prog 163 #[vx, .pointer (some ⟨gb, 0, none⟩)] w (BoolIs (decide (areaR ns ls l ≤ 0)) w) := by
  have HA := Lib.hid (implAlong ns ls v1 v2 vx l w hn hl hx hw hd h40)
  unfold IntIs at HA
  have HN := Lib.hid hn
  have HL := Lib.hid hl
  obtain ⟨A, c, rfl⟩ := prs_form2 hn
  obtain ⟨A2, c2, rfl⟩ := prs_form2 hl
  clear hn hl
  obtain ⟨A3, c3, rfl⟩ := seq_form2 hx
  clear hx hd hw
  unfold areaR
  generalize areaL ns ls l l.length = a at *
  by_cases ha : a ≤ 0
  · have HAA := Lib.hid ha
    go_enter Tryz.func163, Tryz.ntmps163
    go_wp2_with fail
    refine HA.out.mono ?_
    rintro e w1 ⟨rfl, hb⟩
    have HB := Lib.hid hb; clear hb
    go_wp2_with fail
    go_ret
    exact ⟨ret_bool (by simp [HAA.out]), HB.out⟩
  · have HAA := Lib.hid ha
    have ha2 : 0 < a := by omega
    go_enter Tryz.func163, Tryz.ntmps163
    go_wp2_with fail
    refine HA.out.mono ?_
    rintro e w1 ⟨rfl, hb⟩
    have HB := Lib.hid hb; clear hb
    go_wp2_with fail
    go_ret
    exact ⟨ret_bool (by simp [HAA.out]), HB.out⟩

set_option maxRecDepth 100000 in
set_option maxHeartbeats 1000000 in
theorem implIndexF (ns ls : List Nd) (v1 v2 v3 : Value) (rs : List (List Int)) (B gb : Nat) (w : World) (hn : Prs w v1 ns) (hl : Prs w v2 ls) (hf : Faces w B v3 rs) (hok : RowsOk ns ls rs) (x0 : w.cell? ⟨gb, 0, none⟩ = some v1) (x1 : w.cell? ⟨gb, 1, none⟩ = some v2) (hgb : gb < w.heap.size) :
    Calls Tryz.prog 162 #[v3, .func (.func 163) #[] #[.pointer (some ⟨gb, 0, none⟩)]] w (IntIs (firstI (outP ns ls rs) rs.length) w) := by
  obtain ⟨a, c3, rfl, hmax, hro⟩ := hf.open_
  have HRO := Lib.hid hro
  have H0 := Lib.hid (Held.start (w := w) (fs := [(gb, 0, v1), (gb, 1, v2)]) ⟨x0, x1, trivial⟩ ⟨hgb, hgb, trivial⟩)
  have HO1 := Lib.hid (fun W vx l hn hl hx hw hd h4 y0 y1 => implOuter1 ns ls v1 v2 vx l gb W hn hl hx hw hd h4 y0 y1)
  unfold BoolIs at HO1
  have HN := Lib.hid hn
  have HL := Lib.hid hl
  have HOK := Lib.hid hok.2
  have h40 := hok.1
  have HNO := Lib.hid (fun h => firstI_none (p := outP ns ls rs) rs.length h)
  have HYE := Lib.hid (fun m (hm : m < rs.length) h1 h2 => firstI_at (p := outP ns ls rs) (m := m) h1 h2 rs.length hm)
  have HP := Lib.hid (fun k => show outP ns ls rs k = decide (areaR ns ls (atR rs k) ≤ 0) from rfl)
  clear hro hf hn hl hok x0 x1
  generalize firstI (outP ns ls rs) rs.length = res at *
  generalize outP ns ls rs = p at *
  generalize areaR ns ls = ar at *
  go_enter Tryz.func162, Tryz.ntmps162
  go_wp2_with fail
  go_loopw [8] (fun i wr => ∃ m : Nat, m ≤ rs.length ∧ i = .int .i64 m ∧ (∀ j, j < m → p j = false) ∧ Held w wr [(gb, 0, v1), (gb, 1, v2)]) (fun i _ => rs.length - (intOf i).toNat)
  case atStart => exact ⟨0, Nat.zero_le _, rfl, fun j hj => by omega, H0.out⟩
  case round =>
    clear H0
    obtain ⟨m, hm, rfl, hz, hh⟩ := hrel
    have HZ := Lib.hid hz; clear hz
    have H1 := Lib.hid hh; clear hh
    by_cases hlt : m < rs.length
    · obtain ⟨g3, rfl, hg3, hrw⟩ := HRO.out m hlt
      obtain ⟨A4, c4, k0, hsq⟩ := hrw wr H1.out.below
      have HSQ := Lib.hid hsq
      obtain ⟨hw, hd, h4⟩ := HOK.out m hlt
      have HC := Lib.hid (HO1.out wr _ _ (HN.out.step H1.out.below) (HL.out.step H1.out.below) HSQ.out hw hd h4 H1.out.1.1 H1.out.1.2.1)
      rw [← HP.out m] at HC
      clear hw hd hsq hrw
      have q1 : (0 : Int) ≤ m := by omega
      have q2 : (m : Int) < (rs.length : Int) := by omega
      by_cases hp : p m = true
      · rw [hp] at HC
        have HPM := Lib.hid hp; clear hp
        go_wp2_with fail
        refine HC.out.mono ?_
        rintro e w2 ⟨rfl, hb⟩
        have H2 := Lib.hid (H1.out.step hb); clear hb
        go_wp2_with fail
        go_ret
        exact ⟨ret_int (HYE.out m hlt HZ.out HPM.out).symm, H2.out.below⟩
      · have hpf : p m = false := by simpa using hp
        rw [hpf] at HC
        have HPM := Lib.hid hpf; clear hp hpf
        go_wp2_with fail
        refine HC.out.mono ?_
        rintro e w2 ⟨rfl, hb⟩
        have H2 := Lib.hid (H1.out.step hb); clear hb
        go_wp2_with fail
        exact ⟨⟨m + 1, by omega, by go_num, fun j hj => by
          by_cases e : j = m
          · subst e; exact HPM.out
          · exact HZ.out j (by omega), H2.out⟩, by simp [intOf]; omega⟩
    · obtain rfl : m = rs.length := by omega
      go_wp2_with fail
      go_ret
      exact ⟨ret_int (HNO.out HZ.out).symm, H1.out.below⟩

theorem heldG (w : World) (v1 v2 v3 v4 : Value) (T : TypeId) : Held w (w.alloc (.cells #[v1, v2, v3, v4] T)) [(w.heap.size, 0, v1), (w.heap.size, 1, v2), (w.heap.size, 2, v3), (w.heap.size, 3, v4)] :=
  (Held.none_ w).new2 w.heap.size rfl [v1, v2, v3, v4] T

theorem faces_form {w : World} {B : Nat} {v : Value} {rs : List (List Int)} (h : Faces w B v rs) : ∃ a c, v = .slice a rs.length c := by obtain ⟨a, c, e, -⟩ := h.open_; exact ⟨a, c, e⟩

theorem ints_form {w : World} {B : Nat} {v : Value} {xs : List Int} (h : Ints w B v xs) : ∃ a c, v = .slice a xs.length c := by obtain ⟨a, c, e, -⟩ := h.form; exact ⟨a, c, e⟩

set_option maxRecDepth 100000 in
theorem implOuter (ns ls : List Nd) (v1 v2 v3 v4 : Value) (rs : List (List Int)) (ds : List Int) (B : Nat) (w : World) (hn : Prs w v1 ns) (hl : Prs w v2 ls) (hf : Faces w B v3 rs) (ha : Ints w B v4 ds) (hok : RowsOk ns ls rs) :
    Calls Tryz.prog 135 #[.agg #[v1, v2, v3, v4]] w (IntIs (firstI (outP ns ls rs) rs.length) w) := by
  have H0 := Lib.hid (heldG w v1 v2 v3 v4 71)
  have HI := Lib.hid (implIndexF ns ls v1 v2 v3 rs B w.heap.size _ (hn.step H0.out.below) (hl.step H0.out.below) (hf.step H0.out.below) hok H0.out.1.1 H0.out.1.2.1 (by simp))
  unfold IntIs at HI
  have HN := Lib.hid hn
  have HL := Lib.hid hl
  obtain ⟨A, c, rfl⟩ := prs_form2 hn
  obtain ⟨A2, c2, rfl⟩ := prs_form2 hl
  clear hn hl
  obtain ⟨A3, c3, rfl⟩ := faces_form hf
  obtain ⟨A4, c4, rfl⟩ := ints_form ha
  clear hf ha hok
  generalize firstI (outP ns ls rs) rs.length = res at *
  go_enter Tryz.func135, Tryz.ntmps135
  go_wp2_with fail
  refine HI.out.mono ?_
  rintro e w1 ⟨rfl, hb⟩
  have H1 := Lib.hid (H0.out.step hb); clear hb
  go_wp2_with fail
  go_ret
  exact ⟨rfl, H1.out.below⟩

set_option maxRecDepth 100000 in
theorem implHasFace (A1 A2 A3 A4 : Option Addr) (n1 c1 n2 c2 n3 c3 n4 c4 : Nat) (f : Int) (w : World) (hf : n3 ≤ 1000000) :
    Calls Tryz.prog 57 #[.agg #[.slice A1 n1 c1, .slice A2 n2 c2, .slice A3 n3 c3, .slice A4 n4 c4], .int .i64 f] w (BoolIs (idxB n3 f) w) := by
  have H0 := Lib.hid (heldG w (.slice A1 n1 c1) (.slice A2 n2 c2) (.slice A3 n3 c3) (.slice A4 n4 c4) 71)
  have HI := Lib.hid (idxB_iff n3 f)
  generalize idxB n3 f = b at *
  by_cases h0 : 0 ≤ f
  · by_cases h1 : f < (n3 : Int)
    · have HR := Lib.hid (show b = true from HI.out.2 ⟨h0, h1⟩)
      go_enter Tryz.func57, Tryz.ntmps57
      go_wp2_with fail
      go_ret
      exact ⟨ret_bool HR.out.symm, H0.out.below⟩
    · have HR := Lib.hid (show b = false from by rw [Bool.eq_false_iff]; intro e; exact h1 (HI.out.1 e).2)
      go_enter Tryz.func57, Tryz.ntmps57
      go_wp2_with fail
      go_ret
      exact ⟨ret_bool HR.out.symm, H0.out.below⟩
  · have HR := Lib.hid (show b = false from by rw [Bool.eq_false_iff]; intro e; exact h0 (HI.out.1 e).1)
    go_enter Tryz.func57, Tryz.ntmps57
    go_wp2_with fail
    go_ret
    exact ⟨ret_bool HR.out.symm, H0.out.below⟩

def gN (ns ls : List Nd) : List Nd := if wholeB ns ls = true then ns else []

def gL (ns ls : List Nd) : List Nd := if wholeB ns ls = true then ls else []

noncomputable def gA (ns ls : List Nd) : List Int := if wholeB ns ls = true then atW ns ls else []

/-- What glassOf returns. -/
def GlassNew (ns ls : List Nd) (w : World) (e : Ending) (w' : World) : Prop :=
  ∃ v1 v2 v3 v4, e = .returned (.tuple #[.agg #[v1, v2, v3, v4], .bool (wholeB ns ls)]) ∧ Prs w' v1 (gN ns ls) ∧ Prs w' v2 (gL ns ls) ∧ Faces w' w.heap.size v3 (wF ns ls) ∧ Ints w' w.heap.size v4 (gA ns ls) ∧ Below w.heap.size w w'

theorem prs_nil (w : World) : Prs w (.slice none 0 0) [] := ⟨none, 0, rfl, Nat.le_refl _, by unfold maxLen; omega, fun h => by simp at h⟩

theorem implGlass (ns ls : List Nd) (vn vl : Value) (w : World) (hn : Prs w vn ns) (hl : Prs w vl ls) :
    Calls Tryz.prog 98 #[.agg #[vn, vl]] w (GlassNew ns ls w) := by
  by_cases hh : wholeB ns ls = true
  · refine (implGlassYes ns ls vn vl w hn hl hh).mono ?_
    rintro e w' ⟨vf, va, rfl, hf, ha, hb⟩
    refine ⟨vn, vl, vf, va, by rw [hh], ?_, ?_, ?_, ?_, hb⟩
    · unfold gN; rw [if_pos hh]; exact hn.step hb
    · unfold gL; rw [if_pos hh]; exact hl.step hb
    · unfold wF; rw [if_pos hh]; exact hf
    · unfold gA; rw [if_pos hh]; exact ha
  · have hf : wholeB ns ls = false := by simpa using hh
    refine (implGlassNo ns ls vn vl w hn hl hf).mono ?_
    rintro e w' ⟨rfl, hb⟩
    refine ⟨_, _, _, _, by rw [hf], ?_, ?_, ?_, ?_, hb⟩
    · unfold gN; rw [if_neg hh]; exact prs_nil _
    · unfold gL; rw [if_neg hh]; exact prs_nil _
    · unfold wF; rw [if_neg hh]; exact Faces.nil _ _
    · unfold gA; rw [if_neg hh]; exact Ints.nil _ _

theorem g_ok (ns ls : List Nd) : RowsOk (gN ns ls) (gL ns ls) (wF ns ls) := by
  by_cases hh : wholeB ns ls = true
  · have := wF_ok ns ls
    unfold gN gL
    rw [if_pos hh, if_pos hh]
    exact this
  · unfold wF
    rw [if_neg hh]
    exact ⟨by simp, fun k hk => by simp at hk⟩

theorem g_areaR {ns ls : List Nd} {k : Nat} (h : k < (wF ns ls).length) (r : List Int) : areaR (gN ns ls) (gL ns ls) r = areaR ns ls r := by
  have hh := (wF_row h).1
  unfold gN gL
  rw [if_pos hh, if_pos hh]

theorem g_outer (ns ls : List Nd) : firstI (outP (gN ns ls) (gL ns ls) (wF ns ls)) (wF ns ls).length = outW ns ls := by
  unfold outW
  exact firstI_congr _ fun j hj => by unfold outP; rw [g_areaR hj]

end Go.Proofs.YtibgfbkepkjmbaaGreat

namespace Go.Proofs.YtibgfbkepkjmbaaGreat
open Go.RowKit
set_option linter.unusedVariables false
set_option linter.unusedSimpArgs false

theorem g_area {ns ls : List Nd} {k : Nat} (h : k < (wF ns ls).length) : absR (gN ns ls) (gL ns ls) (atR (wF ns ls) k) = areaW ns ls k := by
  unfold areaW absR
  rw [g_areaR h, if_pos ((idxB_iff _ _).2 (by omega))]
  rfl

theorem g_noarea {ns ls : List Nd} {f : Int} (h : idxB (wF ns ls).length f = false) : areaW ns ls f = -1 := by
  unfold areaW
  rw [if_neg (by rw [h]; simp)]

theorem idx_nat {n : Nat} {f : Int} (h : idxB n f = true) : ∃ k : Nat, f = k ∧ k < n := by
  have := (idxB_iff n f).1 h
  exact ⟨f.toNat, by omega, by omega⟩

noncomputable def totalW (ns ls : List Nd) : Int := areaW ns ls (outW ns ls)

/-- The face to the left of a dart. -/
noncomputable def faceW (ns ls : List Nd) (d : Int) : Int := faceI (wF ns ls) d

theorem faceW_in {ns ls : List Nd} {d : Nat} (hh : wholeB ns ls = true) (hd : d < 2 * ls.length) : faceW ns ls d = atZ (atW ns ls) d := by
  unfold faceW wF
  rw [if_pos hh]
  exact (atW_face (whole_win hh).1 hd).1.symm

theorem faceW_out {ns ls : List Nd} {d : Int} (h : ¬ (wholeB ns ls = true ∧ idxB (2 * ls.length) d = true)) : faceW ns ls d = -1 := by
  refine faceI_unseen ?_
  rw [Bool.eq_false_iff]
  intro hs
  obtain ⟨hh, q, rfl, hq⟩ := wF_dart hs
  exact h ⟨hh, (idxB_iff _ _).2 (by omega)⟩

end Go.Proofs.YtibgfbkepkjmbaaGreat
