/-
  Turned, mirrored, alike shapes, of the program; alike shapes of the model.
-/
import Derived.Test.YtfppnaknnijobaaShpU
import Derived.Test.YtfppnaknnijobaaRev
namespace Go.Proofs.Ytfppnaknnijobaa
open Go.RowKit
set_option linter.unusedVariables false
set_option linter.unusedSimpArgs false

set_option maxRecDepth 100000 in
theorem implTurnS (xs : List Nd) (v : Value) (w : World) (hv : Prs w v xs) (hl : xs.length ≤ 1048576) :
    Calls Try.prog 41 #[v] w (OwnRet 49 (turnL xs) w) := by
  have hlen := hv.len
  have HOK := Lib.hid (fun w h => implShpOk xs v w h)
  have HR := Lib.hid (show turnL xs = if shpB xs = true then fitL (xs.map tlN) else [] from rfl)
  have HSB := Lib.hid (fun h => (shpB_iff xs).1 h)
  have HML := Lib.hid (show (xs.map tlN).length = xs.length from List.length_map _)
  have HSM := Lib.hid (fun h => sml_tl (s := xs) h)
  have HMV := Lib.hid (fun w h hok => implMovTl xs v w h hl hok)
  generalize xs.map tlN = M at *
  have HFT := Lib.hid (fun v w h h0 hl hs => implSettled M v w h h0 hl hs)
  unfold OwnSome at HFT HMV
  generalize turnL xs = R at *
  generalize fitL M = FM at *
  have HN := Lib.hid hv
  obtain ⟨A, c, rfl⟩ := prs_form2 hv
  clear hv
  have H0 := Lib.hid (Held.none_ w)
  generalize shpB xs = d at *
  cases d
  · have HRF := Lib.hid (show R = [] from by rw [HR.out]; rfl)
    go_enter Try.func41, Try.ntmps41
    go_wp2_with fail
    refine (HOK.out _ (HN.out.step H0.out.below)).mono ?_
    rintro e wH1 ⟨rfl, hb⟩
    have H1 := Lib.hid ((H0.out).step hb); clear hb
    go_wp2_with fail
    go_ret
    exact ⟨_, rfl, by rw [HRF.out]; exact Own.nil _ _ _, H1.out.below⟩
  · have HRT := Lib.hid (show R = FM from by rw [HR.out]; rfl)
    obtain ⟨h0, hok⟩ := HSB.out rfl
    have HOKS := Lib.hid (HSM.out hok)
    have HMV := Lib.hid (fun w h => HMV.out w h hok)
    clear hok
    have hml := HML.out
    have hh0 : 0 < M.length := by omega
    have hhl : M.length ≤ 1048576 := by omega
    clear hml
    go_enter Try.func41, Try.ntmps41
    go_wp2_with fail
    refine (HOK.out _ (HN.out.step H0.out.below)).mono ?_
    rintro e wH1 ⟨rfl, hb⟩
    have H1 := Lib.hid ((H0.out).step hb); clear hb
    go_wp2_with fail
    refine (HMV.out _ (HN.out.step H1.out.below)).mono ?_
    rintro e w2 ⟨g, cg, rfl, ho, hb⟩
    have H2 := Lib.hid (H1.out.step hb)
    have HO2 := Lib.hid ho
    clear ho hb
    go_wp2_with fail
    refine (HFT.out _ _ HO2.out.prs hh0 hhl HOKS.out).mono ?_
    rintro e w4 ⟨g, cg, rfl, ho, hb⟩
    have H4 := Lib.hid (H2.out.step hb)
    have hrl := H2.out.below.size
    have HO4 := Lib.hid (ho.mono hrl)
    clear ho hb
    go_wp2_with fail
    go_ret
    exact ⟨_, rfl, by rw [HRT.out]; exact HO4.out, H4.out.below⟩

set_option maxRecDepth 100000 in
theorem implMirrS (xs : List Nd) (v : Value) (w : World) (hv : Prs w v xs) (hl : xs.length ≤ 1048576) :
    Calls Try.prog 46 #[v] w (OwnRet 49 (mirrL xs) w) := by
  have hlen := hv.len
  have HOK := Lib.hid (fun w h => implShpOk xs v w h)
  have HR := Lib.hid (show mirrL xs = if shpB xs = true then fitL (xs.map mrN).reverse else [] from rfl)
  have HSB := Lib.hid (fun h => (shpB_iff xs).1 h)
  have HML := Lib.hid (show (xs.map mrN).length = xs.length from List.length_map _)
  have HMR := Lib.hid (show (xs.map mrN).reverse.length = (xs.map mrN).length from List.length_reverse)
  have HSM := Lib.hid (fun h => sml_mr (s := xs) h)
  have HMV := Lib.hid (fun w h hok => implMovMr xs v w h hl hok)
  generalize xs.map mrN = M at *
  have HRV := Lib.hid (fun B T w g c h hl => implRev (B := B) (T := T) (w := w) (xs := M) (g := g) (c := c) h hl)
  have HFT := Lib.hid (fun v w h h0 hl hs => implSettled M.reverse v w h h0 hl hs)
  generalize M.reverse = MR at *
  unfold OwnSome at HFT HMV
  generalize mirrL xs = R at *
  generalize fitL MR = FM at *
  have HN := Lib.hid hv
  obtain ⟨A, c, rfl⟩ := prs_form2 hv
  clear hv
  have H0 := Lib.hid (Held.none_ w)
  generalize shpB xs = d at *
  cases d
  · have HRF := Lib.hid (show R = [] from by rw [HR.out]; rfl)
    go_enter Try.func46, Try.ntmps46
    go_wp2_with fail
    refine (HOK.out _ (HN.out.step H0.out.below)).mono ?_
    rintro e wH1 ⟨rfl, hb⟩
    have H1 := Lib.hid ((H0.out).step hb); clear hb
    go_wp2_with fail
    go_ret
    exact ⟨_, rfl, by rw [HRF.out]; exact Own.nil _ _ _, H1.out.below⟩
  · have HRT := Lib.hid (show R = FM from by rw [HR.out]; rfl)
    obtain ⟨h0, hok⟩ := HSB.out rfl
    have HOKS := Lib.hid (HSM.out hok)
    have HMV := Lib.hid (fun w h => HMV.out w h hok)
    clear hok
    have hml := HML.out
    have hmr := HMR.out
    have hh0 : 0 < MR.length := by omega
    have hhl : MR.length ≤ 1048576 := by omega
    have hhm : M.length ≤ 1048576 := by omega
    clear hml hmr
    go_enter Try.func46, Try.ntmps46
    go_wp2_with fail
    refine (HOK.out _ (HN.out.step H0.out.below)).mono ?_
    rintro e wH1 ⟨rfl, hb⟩
    have H1 := Lib.hid ((H0.out).step hb); clear hb
    go_wp2_with fail
    refine (HMV.out _ (HN.out.step H1.out.below)).mono ?_
    rintro e w2 ⟨g, cg, rfl, ho, hb⟩
    have H2 := Lib.hid (H1.out.step hb)
    have HO2 := Lib.hid ho
    clear ho hb
    go_wp2_with fail
    refine (HRV.out _ _ _ _ _ HO2.out hhm).mono ?_
    rintro e w3 ⟨rfl, ho, hg⟩
    have hrl := H2.out.below.size
    have hrl1 := H1.out.below.size
    have hgl := (HO2.out.own g rfl).1
    have H3 := Lib.hid (show Held w w3 [] from ⟨trivial, trivial, H2.out.below.grown hg hrl (fun k e => by simp at e; omega)⟩)
    have HO3 := Lib.hid ho.prs
    clear ho hg
    go_wp2_with fail
    have hmr := HMR.out
    have HO3 := Lib.hid (show Prs w3 (.slice (some ⟨g, 0, none⟩) M.length cg) MR from HO3.out)
    refine (HFT.out _ _ HO3.out hh0 hhl HOKS.out).mono ?_
    rintro e w4 ⟨g, cg, rfl, ho, hb⟩
    have H4 := Lib.hid (H3.out.step hb)
    have hrl := H3.out.below.size
    have HO4 := Lib.hid (ho.mono hrl)
    clear ho hb
    go_wp2_with fail
    go_ret
    exact ⟨_, rfl, by rw [HRT.out]; exact HO4.out, H4.out.below⟩

/-- The shape b turned n times. -/
def turnK (b : List Nd) : Nat → List Nd
  | 0 => b
  | n + 1 => turnL (turnK b n)
theorem turnK_succ (b : List Nd) (n : Nat) : turnK b (n + 1) = turnL (turnK b n) := rfl
theorem turnK_len (b : List Nd) : ∀ n, (turnK b n).length ≤ b.length
  | 0 => Nat.le_refl _
  | n + 1 => Nat.le_trans (turnL_len _) (turnK_len b n)
def alikeB (a b : List Nd) : Bool := sameB a (turnK b 1) || sameB a (turnK b 2) || sameB a (turnK b 3) || sameB a (turnK b 4)
theorem alikeB_iff (a b : List Nd) : alikeB a b = true ↔ ∃ k, k < 4 ∧ sameB a (turnK b (k + 1)) = true := by
  unfold alikeB
  simp only [Bool.or_eq_true]
  constructor
  · rintro (((h | h) | h) | h)
    · exact ⟨0, by omega, h⟩
    · exact ⟨1, by omega, h⟩
    · exact ⟨2, by omega, h⟩
    · exact ⟨3, by omega, h⟩
  · rintro ⟨k, hk, h⟩
    match k, hk with
    | 0, _ => exact .inl (.inl (.inl h))
    | 1, _ => exact .inl (.inl (.inr h))
    | 2, _ => exact .inl (.inr h)
    | 3, _ => exact .inr h

set_option maxRecDepth 100000 in
theorem specAlike (a b : List Nd) (v u : Value) (w : World) (hv : Prs w v a) (hu : Prs w u b) (hlb : b.length ≤ 1048576) :
    Calls Try.prog 47 #[v, u] w (BoolIs (alikeB a b) w) := by
  have HT := Lib.hid (fun xs v w h hl => specTurnS xs v w h hl)
  have HS := Lib.hid (fun ys v u w h1 h2 => specSameS a ys v u w h1 h2)
  have HP := Lib.hid (fun W (h : Below w.heap.size w W) => hv.step h)
  have HQ := Lib.hid hu
  have HTL := Lib.hid (fun n => turnK_len b n)
  have HTS := Lib.hid (turnK_succ b)
  have HA := Lib.hid (alikeB_iff a b)
  have HZ := Lib.hid (show turnK b 0 = b from rfl)
  generalize alikeB a b = r at *
  generalize turnK b = K at *
  go_enter Try.func47, Try.ntmps47
  go_wp2_with fail
  go_loopw [1, 5] (fun u i wr => ∃ m : Nat, m ≤ 4 ∧ i = .int .i64 m ∧ Prs wr u (K m) ∧ (∀ j, j < m → sameB a (K (j + 1)) = false) ∧ Held w wr []) (fun _ i _ => 4 - (intOf i).toNat)
  case atStart => exact ⟨0, Nat.zero_le _, rfl, by rw [HZ.out]; exact HQ.out, fun j hj => by omega, Held.none_ w⟩
  case round =>
    obtain ⟨m, hm, rfl, hp, hne, hh⟩ := hrel
    have HPP := Lib.hid hp; clear hp
    have HNE := Lib.hid hne; clear hne
    have H1 := Lib.hid hh; clear hh
    by_cases hlt : m < 4
    · have q1 : (m : Int) < 4 := by omega
      have htl := HTL.out m
      have hl4 : (K m).length ≤ 1048576 := by omega
      have HT1 := Lib.hid (fun v w h => HT.out (K m) v w h hl4)
      clear htl hl4
      rw [← HTS.out m] at HT1
      unfold OwnRet at HT1
      go_wp2_with fail
      refine (HT1.out _ _ HPP.out).mono ?_
      rintro e w2 ⟨v2, rfl, ho, hb⟩
      have H2 := Lib.hid (H1.out.step hb)
      have HPP := Lib.hid ho.prs; clear ho hb
      have HS1 := Lib.hid (fun v u w h1 h2 => HS.out (K (m + 1)) v u w h1 h2)
      have HY := Lib.hid (fun (h : sameB a (K (m + 1)) = true) => HA.out.2 ⟨m, hlt, h⟩)
      have HX := Lib.hid (fun (h : sameB a (K (m + 1)) = false) => (fun j (hj : j < m + 1) => (if e : j = m then e ▸ h else HNE.out j (by omega)) : ∀ j, j < m + 1 → sameB a (K (j + 1)) = false))
      generalize sameB a (K (m + 1)) = d at *
      cases d
      · go_wp2_with fail
        refine (HS1.out _ _ _ (HP.out _ H2.out.below) HPP.out).mono ?_
        rintro e wH3 ⟨rfl, hb⟩
        have HPP := Lib.hid (HPP.out.step hb)
        have H3 := Lib.hid ((H2.out).step hb); clear hb
        go_wp2_with fail
        exact ⟨⟨m + 1, by omega, by go_num, HPP.out, HX.out trivial, H3.out⟩, by simp [intOf]; omega⟩
      · go_wp2_with fail
        refine (HS1.out _ _ _ (HP.out _ H2.out.below) HPP.out).mono ?_
        rintro e wH3 ⟨rfl, hb⟩
        have HPP := Lib.hid (HPP.out.step hb)
        have H3 := Lib.hid ((H2.out).step hb); clear hb
        go_wp2_with fail
        go_ret
        exact ⟨ret_bool (HY.out trivial).symm, H3.out.below⟩
    · have hm4 : m = 4 := by omega
      subst hm4
      have HRF := Lib.hid (show r = false from by
        by_cases hr : r = true
        · obtain ⟨k, hk, h⟩ := HA.out.1 hr
          rw [HNE.out k hk] at h; cases h
        · simpa using hr)
      go_wp2_with fail
      go_ret
      exact ⟨ret_bool HRF.out.symm, H1.out.below⟩

set_option maxRecDepth 100000 in
theorem implAlike (a b : List Nd) (v u : Value) (w : World) (hv : Prs w v a) (hu : Prs w u b) (hlb : b.length ≤ 1048576) :
    Calls Try.prog 48 #[v, u] w (BoolIs (alikeB a b) w) := by
  have HT := Lib.hid (fun xs v w h hl => implTurnS xs v w h hl)
  have HS := Lib.hid (fun ys v u w h1 h2 => implSameS a ys v u w h1 h2)
  have HP := Lib.hid (fun W (h : Below w.heap.size w W) => hv.step h)
  have HQ := Lib.hid hu
  have HTL := Lib.hid (fun n => turnK_len b n)
  have HTS := Lib.hid (turnK_succ b)
  have HA := Lib.hid (alikeB_iff a b)
  have HZ := Lib.hid (show turnK b 0 = b from rfl)
  generalize alikeB a b = r at *
  generalize turnK b = K at *
  go_enter Try.func48, Try.ntmps48
  go_wp2_with fail
  go_loopw [1, 5] (fun u i wr => ∃ m : Nat, m ≤ 4 ∧ i = .int .i64 m ∧ Prs wr u (K m) ∧ (∀ j, j < m → sameB a (K (j + 1)) = false) ∧ Held w wr []) (fun _ i _ => 4 - (intOf i).toNat)
  case atStart => exact ⟨0, Nat.zero_le _, rfl, by rw [HZ.out]; exact HQ.out, fun j hj => by omega, Held.none_ w⟩
  case round =>
    obtain ⟨m, hm, rfl, hp, hne, hh⟩ := hrel
    have HPP := Lib.hid hp; clear hp
    have HNE := Lib.hid hne; clear hne
    have H1 := Lib.hid hh; clear hh
    by_cases hlt : m < 4
    · have q1 : (m : Int) < 4 := by omega
      have htl := HTL.out m
      have hl4 : (K m).length ≤ 1048576 := by omega
      have HT1 := Lib.hid (fun v w h => HT.out (K m) v w h hl4)
      clear htl hl4
      rw [← HTS.out m] at HT1
      unfold OwnRet at HT1
      go_wp2_with fail
      refine (HT1.out _ _ HPP.out).mono ?_
      rintro e w2 ⟨v2, rfl, ho, hb⟩
      have H2 := Lib.hid (H1.out.step hb)
      have HPP := Lib.hid ho.prs; clear ho hb
      have HS1 := Lib.hid (fun v u w h1 h2 => HS.out (K (m + 1)) v u w h1 h2)
      have HY := Lib.hid (fun (h : sameB a (K (m + 1)) = true) => HA.out.2 ⟨m, hlt, h⟩)
      have HX := Lib.hid (fun (h : sameB a (K (m + 1)) = false) => (fun j (hj : j < m + 1) => (if e : j = m then e ▸ h else HNE.out j (by omega)) : ∀ j, j < m + 1 → sameB a (K (j + 1)) = false))
      generalize sameB a (K (m + 1)) = d at *
      cases d
      · go_wp2_with fail
        refine (HS1.out _ _ _ (HP.out _ H2.out.below) HPP.out).mono ?_
        rintro e wH3 ⟨rfl, hb⟩
        have HPP := Lib.hid (HPP.out.step hb)
        have H3 := Lib.hid ((H2.out).step hb); clear hb
        go_wp2_with fail
        exact ⟨⟨m + 1, by omega, by go_num, HPP.out, HX.out trivial, H3.out⟩, by simp [intOf]; omega⟩
      · go_wp2_with fail
        refine (HS1.out _ _ _ (HP.out _ H2.out.below) HPP.out).mono ?_
        rintro e wH3 ⟨rfl, hb⟩
        have HPP := Lib.hid (HPP.out.step hb)
        have H3 := Lib.hid ((H2.out).step hb); clear hb
        go_wp2_with fail
        go_ret
        exact ⟨ret_bool (HY.out trivial).symm, H3.out.below⟩
    · have hm4 : m = 4 := by omega
      subst hm4
      have HRF := Lib.hid (show r = false from by
        by_cases hr : r = true
        · obtain ⟨k, hk, h⟩ := HA.out.1 hr
          rw [HNE.out k hk] at h; cases h
        · simpa using hr)
      go_wp2_with fail
      go_ret
      exact ⟨ret_bool HRF.out.symm, H1.out.below⟩

def mirroredB (a b : List Nd) : Bool := alikeB a (mirrL b)
theorem specMirrored (a b : List Nd) (v u : Value) (w : World) (hv : Prs w v a) (hu : Prs w u b) (hlb : b.length ≤ 1048576) :
    Calls Try.prog 49 #[v, u] w (BoolIs (mirroredB a b) w) := by
  have HM := Lib.hid (specMirrS b u w hu hlb)
  have HAL := Lib.hid (fun v u w h1 h2 => specAlike a (mirrL b) v u w h1 h2 (Nat.le_trans (mirrL_len b) hlb))
  have HP := Lib.hid (fun W (h : Below w.heap.size w W) => hv.step h)
  unfold OwnRet at HM
  unfold mirroredB
  generalize alikeB a (mirrL b) = r at *
  generalize mirrL b = MB at *
  go_enter Try.func49, Try.ntmps49
  go_wp2_with fail
  refine HM.out.mono ?_
  rintro e w1 ⟨v1, rfl, ho, hb⟩
  have H1 := Lib.hid ((Held.none_ w).step hb)
  have HP1 := Lib.hid ho.prs; clear ho hb
  go_wp2_with fail
  refine (HAL.out _ _ _ (HP.out _ H1.out.below) HP1.out).mono ?_
  rintro e wH2 ⟨rfl, hb⟩
  have H2 := Lib.hid ((H1.out).step hb); clear hb
  go_wp2_with fail
  go_ret
  exact ⟨rfl, H2.out.below⟩

theorem implMirrored (a b : List Nd) (v u : Value) (w : World) (hv : Prs w v a) (hu : Prs w u b) (hlb : b.length ≤ 1048576) :
    Calls Try.prog 50 #[v, u] w (BoolIs (mirroredB a b) w) := by
  have HM := Lib.hid (implMirrS b u w hu hlb)
  have HAL := Lib.hid (fun v u w h1 h2 => implAlike a (mirrL b) v u w h1 h2 (Nat.le_trans (mirrL_len b) hlb))
  have HP := Lib.hid (fun W (h : Below w.heap.size w W) => hv.step h)
  unfold OwnRet at HM
  unfold mirroredB
  generalize alikeB a (mirrL b) = r at *
  generalize mirrL b = MB at *
  go_enter Try.func50, Try.ntmps50
  go_wp2_with fail
  refine HM.out.mono ?_
  rintro e w1 ⟨v1, rfl, ho, hb⟩
  have H1 := Lib.hid ((Held.none_ w).step hb)
  have HP1 := Lib.hid ho.prs; clear ho hb
  go_wp2_with fail
  refine (HAL.out _ _ _ (HP.out _ H1.out.below) HP1.out).mono ?_
  rintro e wH2 ⟨rfl, hb⟩
  have H2 := Lib.hid ((H1.out).step hb); clear hb
  go_wp2_with fail
  go_ret
  exact ⟨rfl, H2.out.below⟩
end Go.Proofs.Ytfppnaknnijobaa
