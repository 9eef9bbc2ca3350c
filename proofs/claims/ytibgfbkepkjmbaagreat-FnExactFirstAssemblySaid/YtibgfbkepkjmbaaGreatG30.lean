/-
  Several texts in one: a claim has at most 60 files.
-/
import Derived.Test.YtibgfbkepkjmbaaGreatG27
import Derived.BigRegion
import Derived.Test.YtibgfbkepkjmbaaGreatG26
import Derived.Test.YtibgfbkepkjmbaaGreatG21

namespace Go.Proofs.YtibgfbkepkjmbaaGreat
open Go.RowKit Go.Maps
set_option linter.unusedVariables false
set_option linter.unusedSimpArgs false

def anyT (p : Int → Bool) (xs : List Int) (k : Nat) : Bool := (xs.take k).any p

theorem anyT_succ (p : Int → Bool) {xs : List Int} {k : Nat} (h : k < xs.length) : anyT p xs (k + 1) = (anyT p xs k || p (atZ xs k)) := by
  unfold anyT
  rw [List.take_succ_eq_append_getElem h, List.any_append, atZ_get h]
  simp

theorem anyT_iff {p : Int → Bool} {xs : List Int} {k : Nat} (h : k ≤ xs.length) : anyT p xs k = true ↔ ∃ j, j < k ∧ p (atZ xs j) = true := take_any h p

noncomputable def iaW (ns ls : List Nd) (xs : List Int) : Bool := wholeB ns ls && asB (gM ns ls) (wF ns ls).length (gO ns ls) xs

theorem contains17 {w : World} {v : Value} {xs : List Int} (x : Int) (h : Seq w v xs) (hlen : xs.length ≤ 1048576) :
    Calls Tryz.prog 75 #[v, .int .i64 x] w (BoolIs (xs.contains x) w) := by
  obtain ⟨A, c, rfl⟩ := seq_form2 h
  by_cases h0 : xs.length = 0
  · obtain rfl : xs = [] := List.eq_nil_of_length_eq_zero h0
    exact containsNil x w A c
  · obtain ⟨b, o, rfl, hbl, hcs⟩ := seq_at h 0 (by omega)
    have := Any.slices_Contains_int Tryz.lays107 b o xs.length c xs x w (Nat.le_refl _) (by omega) (fun j hj => by rw [hcs j hj]; rfl)
    rw [List.take_length] at this
    exact this.mono fun e w' h => ⟨h.1, by rw [h.2]; exact Below.refl _ _⟩

set_option maxRecDepth 100000 in
set_option maxHeartbeats 1000000 in
theorem implIsAsm (M : Nat → Nat → Bool) (hsym : ∀ i j, M i j = M j i) (N out : Nat) (xs : List Int) (vb v : Value) (w : World) (hv : Seq w vb (besL M N N)) (hu : Seq w v xs) (hN : N ≤ 20) (hout : out < N) :
    Calls Tryz.prog 72 #[.agg #[.int .i64 ((inN out N : Nat) : Int), vb], v] w (BoolIs (asB M N out xs) w) := by
  have HNX := Lib.hid (fun (D : Nat) W (hb : Below w.heap.size w W) (hD : D < 4611686018427387904) => implNext17 M N out D vb W (hv.step hb) hN hD)
  unfold IntsNew at HNX
  have HCN := Lib.hid (fun (D : Nat) (x : Int) W u (h : Seq W u (nextL M N out D)) => contains17 x h (Nat.le_trans (show (nextL M N out D).length ≤ N from fltN_len _ _) (by omega)))
  unfold BoolIs at HCN
  have hbl := besL_len M N N
  obtain ⟨A, c, rfl⟩ := seq_form2 hv
  rw [hbl] at HNX ⊢
  clear hv hbl
  have hul := hu.len
  have HU := Lib.hid hu
  obtain ⟨A3, c3, rfl⟩ := seq_form2 hu
  clear hu
  have H0 := Lib.hid (heldS w (.int .i64 ((inN out N : Nat) : Int)) (.slice A N c) 92)
  have HNI := Lib.hid (fun k (hk : k < xs.length) (h : AsOk M N out xs k) => next_iff hsym hk h)
  have HNO := Lib.hid (fun k (hk : k < xs.length) h => asB_no (M := M) (N := N) (out := out) (xs := xs) (k := k) hk h)
  have HEND := Lib.hid (fun h => asB_end (M := M) (xs := xs) hout h)
  have HDL := Lib.hid (fun k (hk : k ≤ xs.length) (h : AsOk M N out xs k) => (show setN (xs.take k) < 4611686018427387904 from setN_lt _ _ (fun x hx => by
    obtain ⟨j, hj, rfl⟩ := List.getElem_of_mem hx
    rw [List.length_take] at hj
    rw [List.getElem_take, atZ_get (by omega)]
    obtain ⟨q, hq, hq2, _⟩ := h j (by omega)
    rw [hq]; simp; omega) (by decide)))
  have HSU := Lib.hid (fun k (h : k < xs.length) => setN_succ h)
  have HSE := Lib.hid (show setN (xs.take xs.length) = setN xs from by rw [List.take_length])
  have HS0 := Lib.hid (show setN (xs.take 0) = 0 from rfl)
  have HWI := Lib.hid (fun (r i : Nat) w h1 h2 => implWith r i w h1 h2)
  unfold IntIs at HWI
  generalize inN out N = IN at *
  generalize asB M N out xs = R at *
  go_enter Tryz.func72, Tryz.ntmps72
  go_wp2_with fail
  go_loopw [5, 10] (fun s i wr => ∃ k : Nat, k ≤ xs.length ∧ i = .int .i64 k ∧ s = .int .i64 ((setN (xs.take k) : Nat) : Int) ∧ AsOk M N out xs k ∧ Held w wr [(w.heap.size, 0, .int .i64 ((IN : Nat) : Int)), (w.heap.size, 1, .slice A N c)]) (fun _ i _ => xs.length - (intOf i).toNat)
  case atStart => exact ⟨0, Nat.zero_le _, rfl, by rw [HS0.out]; rfl, AsOk.zero _ _ _ _, H0.out⟩
  case round =>
    clear H0
    obtain ⟨k, hk, rfl, rfl, hok, hh⟩ := hrel
    have HH := Lib.hid hh; clear hh
    have HOK := Lib.hid hok; clear hok
    obtain ⟨x0, x1, _⟩ := HH.out.1
    by_cases hlt : k < xs.length
    · obtain ⟨bx, ox, rfl, hbx, hcx⟩ := seq_at (HU.out.step HH.out.below) k hlt
      have cx := hcx k hlt
      have hz1 : (k : Int) < (xs.length : Int) := by omega
      have hz2 : (0 : Int) ≤ k := by omega
      have HI := Lib.hid (HNI.out k hlt HOK.out)
      have HN2 := Lib.hid (HNO.out k hlt)
      have HDK := Lib.hid (HDL.out k hk HOK.out)
      have HSK := Lib.hid (HSU.out k hlt)
      clear hcx hbx
      generalize setN (xs.take k) = D at *
      generalize hx : atZ xs k = x at *
      have HX := Lib.hid hx; clear hx
      go_wp2_with fail
      refine (HNX.out D _ HH.out.below HDK.out).mono ?_
      rintro e w1 ⟨v1, rfl, h1, hb⟩
      have H1 := Lib.hid (HH.out.step hb)
      have HQ := Lib.hid h1.seq
      clear hb h1 x0 x1
      go_wp2_with fail
      refine (HCN.out D x w1 v1 HQ.out).mono ?_
      rintro e w2 ⟨rfl, hb⟩
      have H2 := Lib.hid (H1.out.step hb)
      clear hb
      obtain ⟨x0, x1, _⟩ := H2.out.1
      by_cases hc : (nextL M N out D).contains x = true
      · have hst := HI.out.1 hc
        have HOK2 := Lib.hid (HOK.out.succ hst)
        obtain ⟨q, hq, hqN, _⟩ := hst
        obtain rfl : x = q := by rw [← HX.out, hq]
        rw [hc]
        have HSQ := Lib.hid (show setN (xs.take (k + 1)) = D ||| 2 ^ q from by rw [HSK.out]; simp)
        have HWQ := Lib.hid (HWI.out D q · HDK.out (by omega))
        clear hc hq
        go_wp2_with fail
        refine (HWQ.out _).mono ?_
        rintro e w3 ⟨rfl, hb⟩
        have H3 := Lib.hid (H2.out.step hb)
        clear hb x0 x1
        go_wp2_with fail
        exact ⟨⟨k + 1, by omega, by go_num, by rw [HSQ.out], HOK2.out, H3.out⟩, by simp [intOf]; omega⟩
      · have HF := Lib.hid (HN2.out fun h => hc (HI.out.2 h))
        rw [Bool.not_eq_true] at hc
        rw [hc]
        clear hc
        go_wp2_with fail
        go_ret
        exact ⟨ret_bool HF.out.symm, H2.out.below⟩
    · obtain rfl : k = xs.length := by omega
      have HE := Lib.hid (HEND.out HOK.out)
      rw [HSE.out] at *
      by_cases he : setN xs = IN
      · have HF := Lib.hid (show R = true from by rw [HE.out]; exact decide_eq_true he)
        rw [he]
        clear he
        go_wp2_with fail
        go_ret
        exact ⟨by rw [HF.out]; first | rfl | simp, HH.out.below⟩
      · have HF := Lib.hid (show R = false from by rw [HE.out]; exact decide_eq_false he)
        have e5 : (((setN xs : Nat) : Int) == (IN : Int)) = false := by rw [beq_eq_false_iff_ne]; omega
        generalize ((setN xs : Nat) : Int) = z at *
        clear he
        go_wp2_with fail
        go_ret
        exact ⟨ret_bool HF.out.symm, HH.out.below⟩

set_option maxRecDepth 100000 in
set_option maxHeartbeats 1000000 in
theorem implAsm (ns ls : List Nd) (xs : List Int) (vn vl v : Value) (w : World) (hn : Prs w vn ns) (hl : Prs w vl ls) (hv : Seq w v xs) :
    Calls Tryz.prog 29 #[.agg #[vn, vl], v] w (BoolIs (iaW ns ls xs) w) := by
  have HSC := Lib.hid (fun w h1 h2 => implScaffold ns ls vn vl w h1 h2)
  unfold ScafRet at HSC
  rw [inW_is] at HSC
  have h13 := wF_thirteen ns ls
  have HJ := Lib.hid (fun (h : gO ns ls < (wF ns ls).length) vb w h1 h2 => implIsAsm (gM ns ls) (besM_sym _ _) (wF ns ls).length (gO ns ls) xs vb v w h1 h2 (by omega) h)
  unfold BoolIs at HJ
  have HOL := Lib.hid (fun (h : wholeB ns ls = true) => (show gO ns ls < (wF ns ls).length from by
    obtain ⟨o, ho, hol⟩ := outW_is h
    unfold gO; rw [ho]; simpa using hol))
  have HAJ := Lib.hid (show iaW ns ls xs = (wholeB ns ls && asB (gM ns ls) (wF ns ls).length (gO ns ls) xs) from rfl)
  have HGM := Lib.hid (show besM (gA ns ls) (gL ns ls).length = gM ns ls from rfl)
  rw [HGM.out] at HSC
  have HN := Lib.hid hn
  have HL := Lib.hid hl
  have HV := Lib.hid hv
  have H0 := Lib.hid (held_pair w vn vl 30)
  obtain ⟨A, c1, rfl⟩ := prs_form2 hn
  obtain ⟨A2, c2, rfl⟩ := prs_form2 hl
  obtain ⟨A3, c3, rfl⟩ := seq_form2 hv
  clear hn hl hv HGM
  generalize iaW ns ls xs = R at *
  generalize asB (gM ns ls) (wF ns ls).length (gO ns ls) xs = R2 at *
  generalize inN (gO ns ls) (wF ns ls).length = IN at *
  generalize hbs : besL (gM ns ls) (wF ns ls).length (wF ns ls).length = bs at *
  clear hbs
  generalize wholeB ns ls = wb at *
  go_enter Tryz.func29, Tryz.ntmps29
  obtain ⟨x0, x1, _⟩ := H0.out.1
  go_wp2_with fail
  refine (HSC.out _ (HN.out.step H0.out.below) (HL.out.step H0.out.below)).mono ?_
  rintro e w1 ⟨vb, rfl, hb1, hb⟩
  have H1 := Lib.hid (H0.out.step hb)
  have HB := Lib.hid hb1.seq
  have G0 := Lib.hid (heldS w1 (.int .i64 ((IN : Nat) : Int)) vb 92)
  obtain ⟨ab, cb, rfl⟩ := hb1.form
  have HBG := Lib.hid (H1.out.below.trans (G0.out.below.mono H1.out.below.size))
  clear hb hb1 x0 x1
  obtain ⟨x0, x1, _⟩ := G0.out.1
  cases wb
  · have HF := Lib.hid (show R = false from HAJ.out)
    go_wp2_with fail
    go_ret
    exact ⟨ret_bool HF.out.symm, HBG.out⟩
  · have HF := Lib.hid (show R = R2 from HAJ.out)
    have HJ2 := Lib.hid (HJ.out (HOL.out rfl))
    go_wp2_with fail
    refine (HJ2.out _ _ (HB.out.step G0.out.below) (HV.out.step HBG.out)).mono ?_
    rintro e w2 ⟨rfl, hb⟩
    go_wp2_with fail
    go_ret
    exact ⟨ret_bool HF.out.symm, HBG.out.trans (hb.mono HBG.out.size)⟩

/-- The wall of bools: which faces are set. -/
def hasF (xs : List Int) (k q : Nat) : Bool := anyT (fun x => decide (x = (q : Int))) xs k

theorem hasF_iff {xs : List Int} {k q : Nat} (h : k ≤ xs.length) : hasF xs k q = true ↔ ∃ j, j < k ∧ atZ xs j = (q : Int) := by
  unfold hasF
  rw [anyT_iff h]
  simp

theorem hasF_succ {xs : List Int} {k f q : Nat} (h : k < xs.length) (hf : atZ xs k = (f : Int)) : hasF xs (k + 1) q = (if q = f then true else hasF xs k q) := by
  unfold hasF
  rw [anyT_succ _ h, hf]
  by_cases e : q = f
  · subst e; simp
  · rw [if_neg e]
    have : ¬ (f : Int) = (q : Int) := by omega
    simp [this]

/-- Whether the new face is the first one, or beside one of the first j. -/
def nearF (M : Nat → Nat → Bool) (xs : List Int) (k q j : Nat) : Bool := decide (k = 0) || anyT (fun x => M x.toNat q) xs j

theorem nearF_succ {M : Nat → Nat → Bool} {xs : List Int} {k q j : Nat} (h : j < xs.length) : nearF M xs k q (j + 1) = (nearF M xs k q j || M (atZ xs j).toNat q) := by
  unfold nearF
  rw [anyT_succ _ h, Bool.or_assoc]

theorem nearF_iff {M : Nat → Nat → Bool} {xs : List Int} {k q : Nat} (h : k ≤ xs.length) : nearF M xs k q k = true ↔ (k = 0 ∨ ∃ j, j < k ∧ M (atZ xs j).toNat q = true) := by
  unfold nearF
  rw [Bool.or_eq_true, anyT_iff h]
  simp

theorem asB_all {M : Nat → Nat → Bool} {N out : Nat} {xs : List Int} (h : AsOk M N out xs xs.length) : asB M N out xs = decide (xs.length + 1 = N) := by
  unfold asB
  rw [decide_eq_decide]
  exact ⟨fun e => e.2, fun e => ⟨h, e⟩⟩

theorem AsOk.in_ {M : Nat → Nat → Bool} {N out : Nat} {xs : List Int} {k j : Nat} (h : AsOk M N out xs k) (hj : j < k) : ∃ q : Nat, atZ xs j = q ∧ q < N := by
  obtain ⟨q, h1, h2, _⟩ := h j hj
  exact ⟨q, h1, h2⟩

set_option maxRecDepth 100000 in
set_option maxHeartbeats 1000000 in
theorem specAsm (ns ls : List Nd) (xs : List Int) (vn vl v : Value) (w : World) (hn : Prs w vn ns) (hl : Prs w vl ls) (hv : Seq w v xs) :
    Calls Tryz.prog 28 #[.agg #[vn, vl], v] w (BoolIs (iaW ns ls xs) w) := by
  have HWH := Lib.hid (fun w h1 h2 => specWhole ns ls vn vl w h1 h2)
  unfold BoolIs at HWH
  have HOU := Lib.hid (fun w h1 h2 => specOuterFace ns ls vn vl w h1 h2)
  unfold IntIs at HOU
  have HMT := Lib.hid (fun w h1 h2 (hh : wholeB ns ls = true) => specMat ns ls vn vl w h1 h2 hh)
  unfold MatNew at HMT
  have h13 := wF_thirteen ns ls
  have hul := hv.len
  have HN := Lib.hid hn
  have HL := Lib.hid hl
  have HV := Lib.hid hv
  have H0 := Lib.hid (held_pair w vn vl 30)
  obtain ⟨A, c1, rfl⟩ := prs_form2 hn
  obtain ⟨A2, c2, rfl⟩ := prs_form2 hl
  obtain ⟨A3, c3, rfl⟩ := seq_form2 hv
  clear hn hl hv
  by_cases hh : wholeB ns ls = true
  · obtain ⟨o, ho, hol⟩ := outW_is hh
    have HR := Lib.hid (show iaW ns ls xs = asB (besM (atW ns ls) ls.length) (wF ns ls).length o xs from by unfold iaW gO; rw [hh, gM_is hh, ho]; rfl)
    have HHH := Lib.hid hh
    rw [hh] at HWH
    rw [ho] at HOU
    clear hh ho
    generalize besM (atW ns ls) ls.length = M at *
    generalize (wF ns ls).length = N at *
    have HNO := Lib.hid (fun k (hk : k < xs.length) h => asB_no (M := M) (N := N) (out := o) (xs := xs) (k := k) hk h)
    have HAL := Lib.hid (fun h => asB_all (M := M) (N := N) (out := o) (xs := xs) h)
    rw [← HR.out] at HNO HAL
    have HSI := Lib.hid (fun (x : Int) w => specIn x 0 ((N : Int) - 1) w)
    have HII := Lib.hid (fun (x : Int) => inB_iff x 0 ((N : Int) - 1))
    have hw1 : wrap64 ((N : Int) - 1) = (N : Int) - 1 := IntWalk.wrap64_in _ (by omega)
    have HMK : Hid (∀ W : World, (Instr.makeSlice 88 (.int .i64 (N : Int)) (.int .i64 (N : Int))).run Tryz.prog W = .ok (.slice (some ⟨W.heap.size, 0, none⟩) N N) (W.alloc (.cells (madeCells #[.bool false] N) 4))) := Lib.hid (by
      exact run_make_row' 88 4 (.bool false) 1 Tryz.underlying88 infoBool rfl .i64 .i64 N (by omega) (by omega))
    clear HR
    generalize iaW ns ls xs = R at *
    go_enter Tryz.func28, Tryz.ntmps28
    obtain ⟨x0, x1, _⟩ := H0.out.1
    go_wp2_with fail
    refine (HWH.out _ (HN.out.step H0.out.below) (HL.out.step H0.out.below)).mono ?_
    rintro e w1 ⟨rfl, hb⟩
    have H1 := Lib.hid (H0.out.step hb)
    clear hb x0 x1
    obtain ⟨x0, x1, _⟩ := H1.out.1
    go_wp2_with fail
    refine (HMT.out _ (HN.out.step H1.out.below) (HL.out.step H1.out.below) HHH.out).mono ?_
    rintro e w2 ⟨vm, g, rfl, hm, hb⟩
    have H2 := Lib.hid (H1.out.step hb)
    obtain ⟨gm, cm, rfl⟩ := hm.some_ (by omega)
    have HM2 := Lib.hid hm
    clear hm hb x0 x1
    obtain ⟨x0, x1, _⟩ := H2.out.1
    go_wp2_with fail
    refine (HOU.out _ (HN.out.step H2.out.below) (HL.out.step H2.out.below)).mono ?_
    rintro e w3 ⟨rfl, hb⟩
    have H3 := Lib.hid (H2.out.step hb)
    have HM3 := Lib.hid (HM2.out.step hb)
    clear hb x0 x1
    have hmk := HMK.out w3
    have HB4 := Lib.hid (H3.out.below.alloc H3.out.below.size (.cells (madeCells #[.bool false] N) 4))
    have HM4 := Lib.hid (HM3.out.step (below_alloc w3 (.cells (madeCells #[.bool false] N) 4)))
    have HR4 := Lib.hid (World.rowIs_made w3 (.bool false) N 4)
    have HMW := Lib.hid (fun W (hb : Below w3.heap.size (w3.alloc (.cells (madeCells #[.bool false] N) 4)) W) => (HM3.out.step ((below_alloc w3 (.cells (madeCells #[.bool false] N) 4)).trans hb)).mono (b' := 0) (Nat.zero_le _))
    have hsh : w.heap.size ≤ w3.heap.size := H3.out.below.size
    clear H0 H1 H2 HM2 HM3 HM4 H3
    go_wp2_with fail
    clear hmk HMK
    generalize hw4 : w3.alloc (.cells (madeCells #[.bool false] N) 4) = w4 at *
    have hs3 : w3.heap.size < w4.heap.size := by rw [← hw4]; simp
    generalize hhb : w3.heap.size = h at *
    clear hw4 hhb
    go_loopw [8] (fun i wr => ∃ k : Nat, k ≤ xs.length ∧ i = .int .i64 k ∧ AsOk M N o xs k ∧ wr.rowIs h 4 N (fun q => .bool (hasF xs k q)) ∧ Below h w4 wr) (fun i _ => xs.length - (intOf i).toNat)
    case atStart => exact ⟨0, Nat.zero_le _, rfl, AsOk.zero _ _ _ _, HR4.out, Below.refl _ _⟩
    case round =>
      clear HR4
      obtain ⟨k, hk, rfl, hok, hr, hb⟩ := hrel
      have HOK := Lib.hid hok
      have HRW := Lib.hid hr
      have HB := Lib.hid hb
      clear hok hr hb
      by_cases hlt : k < xs.length
      · obtain ⟨bx, ox, rfl, hbx, hcx⟩ := seq_at HV.out k hlt
        have HXC := Lib.hid (fun W (hb : Below h w4 W) i (hi : i < xs.length) => ((HB4.out.trans (hb.mono hsh)).cell (p := ⟨bx, ox + i, none⟩) hbx).trans (hcx i hi))
        have cx := HXC.out _ HB.out k hlt
        have hz1 : (k : Int) < (xs.length : Int) := by omega
        have hz2 : (0 : Int) ≤ k := by omega
        have HNK := Lib.hid (HNO.out k hlt)
        clear hcx hbx
        obtain ⟨x, hx⟩ : ∃ x, atZ xs k = x := ⟨_, rfl⟩
        rw [hx] at cx
        have HX := Lib.hid hx; clear hx
        go_wp2_with fail
        refine (HSI.out x _).mono ?_
        rintro e w9 ⟨rfl, rfl⟩
        by_cases hin : inB x 0 ((N : Int) - 1) = true
        · obtain ⟨h0, h1⟩ := (HII.out x).1 hin
          obtain ⟨q, rfl⟩ : ∃ q : Nat, x = q := ⟨x.toNat, by omega⟩
          have hqN : q < N := by omega
          rw [hin]
          clear hin h0 h1
          by_cases hqo : q = o
          · have HF := Lib.hid (HNK.out (by
              rintro ⟨q', h1, _, h3, _⟩
              rw [HX.out] at h1
              omega))
            rw [hqo] at cx ⊢
            clear hqo
            go_wp2_with fail
            go_ret
            exact ⟨ret_bool HF.out.symm, HB4.out.trans (HB.out.mono hsh)⟩
          · have e1 : ((q : Int) == (o : Int)) = false := by rw [beq_eq_false_iff_ne]; omega
            have HQO := Lib.hid hqo; clear hqo
            obtain ⟨oo, hoo⟩ : ∃ oo : Int, oo = (o : Int) := ⟨_, rfl⟩
            have z1 := HRW.out.cell hqN
            have z2 := HRW.out.frozen q
            have z3 := HRW.out.lt
            have q0 : (0 : Int) ≤ q := by omega
            have q1 : (q : Int) < (N : Int) := by omega
            by_cases hhs : hasF xs k q = true
            · have HF := Lib.hid (HNK.out (by
                rintro ⟨q', h1, _, _, h4, _⟩
                rw [HX.out] at h1
                obtain rfl : q = q' := by omega
                obtain ⟨j, hj, e⟩ := (hasF_iff hk).1 hhs
                exact h4 j hj e))
              rw [hhs] at z1
              clear hhs
              go_wp2_with fail
              go_ret
              exact ⟨ret_bool HF.out.symm, HB4.out.trans (HB.out.mono hsh)⟩
            · have HHS := Lib.hid hhs
              rw [Bool.not_eq_true] at hhs
              rw [hhs] at z1
              clear hhs
              have HN0 := Lib.hid (show nearF M xs k q 0 = ((k : Int) == 0) from by
                unfold nearF anyT
                rw [Bool.eq_iff_iff]
                simp)
              have HNI := Lib.hid (nearF_iff (M := M) (q := q) hk)
              have HNS := Lib.hid (fun j (h : j < xs.length) => nearF_succ (M := M) (k := k) (q := q) h)
              generalize nearF M xs k q = NB at *
              go_wp2_with fail
              go_loopw [9, 10] (fun nb j wr2 => ∃ i : Nat, i ≤ k ∧ j = .int .i64 i ∧ nb = .bool (NB i) ∧ wr2.rowIs h 4 N (fun q => .bool (hasF xs k q)) ∧ Below h w4 wr2) (fun _ j _ => k - (intOf j).toNat)
              case atStart => exact ⟨0, Nat.zero_le _, rfl, by rw [HN0.out], HRW.out, HB.out⟩
              case round =>
                clear HRW HB z1 z2 z3 cx
                obtain ⟨i, hi, rfl, rfl, hr, hb⟩ := hrel
                have HRW := Lib.hid hr
                have HB := Lib.hid hb
                clear hr hb
                by_cases hil : i < k
                · obtain ⟨p, hp, hpN⟩ := HOK.out.in_ hil
                  have cp := HXC.out _ HB.out i (by omega)
                  have ck := HXC.out _ HB.out k hlt
                  rw [hp] at cp
                  rw [HX.out] at ck
                  have HNI2 := Lib.hid (HNS.out i (by omega))
                  rw [hp, Int.toNat_natCast] at HNI2
                  have hm := HMW.out _ HB.out
                  obtain ⟨y0, hgm⟩ := hm.cellRow hpN
                  obtain ⟨y1, y2, y3⟩ := hm.cell hpN hqN
                  unfold rowVal at y0
                  have p0 : (0 : Int) ≤ p := by omega
                  have p1 : (p : Int) < (N : Int) := by omega
                  have p2 : (0 : Int) ≤ i := by omega
                  have p3 : (i : Int) < (k : Int) := by omega
                  have p4 : (i : Int) < (xs.length : Int) := by omega
                  clear hm hp
                  generalize M p q = c3 at *
                  generalize NB i = nb at *
                  cases nb
                  · have E := Lib.hid (show NB (i + 1) = c3 from by rw [HNI2.out]; rfl)
                    go_wp2_with fail
                    go_big_region
                    all_goals go_wp2_with fail
                    exact ⟨⟨i + 1, by omega, by go_num, by rw [E.out], HRW.out.drew, HB.out.drew⟩, by simp [intOf]; omega⟩
                  · have E := Lib.hid (show NB (i + 1) = true from by rw [HNI2.out]; rfl)
                    go_wp2_with fail
                    go_big_region
                    all_goals go_wp2_with fail
                    exact ⟨⟨i + 1, by omega, by go_num, by rw [E.out], HRW.out.drew, HB.out.drew⟩, by simp [intOf]; omega⟩
                · obtain rfl : i = k := by omega
                  have ck := HXC.out _ HB.out i hlt
                  rw [HX.out] at ck
                  have z1 := HRW.out.cell hqN
                  have z2 := HRW.out.frozen q
                  have z3 := HRW.out.lt
                  cases hnb : NB i
                  · have HF := Lib.hid (HNK.out (by
                      rintro ⟨q', h1, _, _, _, h5⟩
                      rw [HX.out] at h1
                      obtain rfl : q = q' := by omega
                      rw [HNI.out.2 h5] at hnb
                      cases hnb))
                    clear hnb
                    go_wp2_with fail
                    go_ret
                    exact ⟨ret_bool HF.out.symm, HB4.out.trans (HB.out.mono hsh)⟩
                  · have HST := Lib.hid (show StpOk M N o xs i from ⟨q, HX.out, hqN, HQO.out, fun j hj e => HHS.out ((hasF_iff hk).2 ⟨j, hj, e⟩), HNI.out.1 hnb⟩)
                    clear hnb
                    go_wp2_with fail
                    exact ⟨⟨i + 1, by omega, by go_num, HOK.out.succ HST.out, (HRW.out.set q (.bool true)).congr (fun j hj => by rw [hasF_succ hlt HX.out]; split <;> rfl), Below.setCell HB.out (p := ⟨h, q, none⟩) (Nat.le_refl _) _⟩, by simp [intOf]; omega⟩
        · have HF := Lib.hid (HNK.out (by
            rintro ⟨q', h1, h2, _⟩
            rw [HX.out] at h1
            exact hin ((HII.out x).2 (by omega))))
          rw [Bool.not_eq_true] at hin
          rw [hin]
          clear hin
          go_wp2_with fail
          go_ret
          exact ⟨ret_bool HF.out.symm, HB4.out.trans (HB.out.mono hsh)⟩
      · obtain rfl : k = xs.length := by omega
        have HE := Lib.hid (HAL.out HOK.out)
        have q1 : ¬ (xs.length : Int) < (xs.length : Int) := by omega
        by_cases he : xs.length + 1 = N
        · have e1 : ((xs.length : Int) == (N : Int) - 1) = true := by rw [beq_iff_eq]; omega
          have HF := Lib.hid (show R = true from by rw [HE.out]; exact decide_eq_true he)
          clear he
          go_wp2_with fail
          go_ret
          exact ⟨ret_bool HF.out.symm, HB4.out.trans (HB.out.mono hsh)⟩
        · have e1 : ((xs.length : Int) == (N : Int) - 1) = false := by rw [beq_eq_false_iff_ne]; omega
          have HF := Lib.hid (show R = false from by rw [HE.out]; exact decide_eq_false he)
          clear he
          go_wp2_with fail
          go_ret
          exact ⟨ret_bool HF.out.symm, HB4.out.trans (HB.out.mono hsh)⟩
  · rw [Bool.not_eq_true] at hh
    have HF := Lib.hid (show iaW ns ls xs = false from by unfold iaW; rw [hh]; rfl)
    rw [hh] at HWH
    clear hh HMT HOU
    generalize iaW ns ls xs = R at *
    go_enter Tryz.func28, Tryz.ntmps28
    obtain ⟨x0, x1, _⟩ := H0.out.1
    go_wp2_with fail
    refine (HWH.out _ (HN.out.step H0.out.below) (HL.out.step H0.out.below)).mono ?_
    rintro e w1 ⟨rfl, hb⟩
    go_wp2_with fail
    go_ret
    exact ⟨ret_bool HF.out.symm, (H0.out.step hb).below⟩
end Go.Proofs.YtibgfbkepkjmbaaGreat

namespace Go.Proofs.YtibgfbkepkjmbaaGreat
open Go.RowKit Go.Maps
set_option linter.unusedVariables false
set_option linter.unusedSimpArgs false

noncomputable def faL (ns ls : List Nd) (x : Int) : List Int := faS (gM ns ls) (wF ns ls).length (gO ns ls) x.toNat (wF ns ls).length

noncomputable def faB (ns ls : List Nd) (x : Int) : Bool := wholeB ns ls && (inB x 0 (((wF ns ls).length : Int) - 1) && asB (gM ns ls) (wF ns ls).length (gO ns ls) (faL ns ls x))

noncomputable def faR (ns ls : List Nd) (x : Int) : List Int := if faB ns ls x = true then faL ns ls x else []

theorem faR_no {ns ls : List Nd} {x : Int} (h : faB ns ls x = false) : faR ns ls x = [] := if_neg (by rw [h]; simp)

theorem faR_yes {ns ls : List Nd} {x : Int} (h : faB ns ls x = true) : faR ns ls x = faL ns ls x := if_pos h

theorem faS_len {M : Nat → Nat → Bool} {N out first : Nat} : ∀ n, (faS M N out first n).length ≤ n + 1
  | 0 => by simp [faS]
  | n + 1 => by
    have ih := faS_len (M := M) (N := N) (out := out) (first := first) n
    rw [faS_succ]
    split
    · omega
    · simp; omega

theorem faR_len (ns ls : List Nd) (x : Int) : (faR ns ls x).length ≤ 20 := by
  have h13 := wF_thirteen ns ls
  unfold faR
  split
  · unfold faL
    have := faS_len (M := gM ns ls) (N := (wF ns ls).length) (out := gO ns ls) (first := x.toNat) (wF ns ls).length
    omega
  · simp

theorem Ints.made1 (w : World) (B : Nat) (x : Int) (hB : B ≤ w.heap.size) : Ints (w.alloc (.cells #[.int .i64 x] 3)) B (.slice (some ⟨w.heap.size, 0, none⟩) 1 1) [x] :=
  ⟨by simp, .inr ⟨w.heap.size, 1, #[.int .i64 x], rfl, hB, heap_alloc_new w _, Nat.le_refl _, by unfold maxLen; omega, by simp, by simp⟩⟩

theorem anyT_all (p : Int → Bool) (xs : List Int) : anyT p xs xs.length = xs.any p := by unfold anyT; rw [List.take_length]

set_option maxRecDepth 100000 in
set_option maxHeartbeats 1000000 in
theorem specFas (ns ls : List Nd) (vn vl : Value) (x : Int) (w : World) (hn : Prs w vn ns) (hl : Prs w vl ls) :
    Calls Tryz.prog 30 #[.agg #[vn, vl], .int .i64 x] w (CwRet (faB ns ls x) (faR ns ls x) w) := by
  have HWH := Lib.hid (fun w h1 h2 => specWhole ns ls vn vl w h1 h2)
  unfold BoolIs at HWH
  have HFC := Lib.hid (fun w h1 h2 => specFacesL ns ls vn vl w h1 h2)
  unfold FacesNew at HFC
  have HOU := Lib.hid (fun w h1 h2 => specOuterFace ns ls vn vl w h1 h2)
  unfold IntIs at HOU
  have HMT := Lib.hid (fun w h1 h2 (hh : wholeB ns ls = true) => specMat ns ls vn vl w h1 h2 hh)
  unfold MatNew at HMT
  have HHA := Lib.hid (fun (xs : List Int) v (x : Int) w h => specHas xs v x w h)
  have HAS := Lib.hid (fun (xs : List Int) v w h1 h2 h3 => specAsm ns ls xs vn vl v w h1 h2 h3)
  unfold BoolIs at HHA HAS
  have h13 := wF_thirteen ns ls
  have HN := Lib.hid hn
  have HL := Lib.hid hl
  have H0 := Lib.hid (held_pair w vn vl 30)
  have HNO := Lib.hid (fun h => faR_no (ns := ns) (ls := ls) (x := x) h)
  have HYES := Lib.hid (fun h => faR_yes (ns := ns) (ls := ls) (x := x) h)
  have HFB := Lib.hid (show faB ns ls x = (wholeB ns ls && (inB x 0 (((wF ns ls).length : Int) - 1) && asB (gM ns ls) (wF ns ls).length (gO ns ls) (faL ns ls x))) from rfl)
  have HFL := Lib.hid (show faL ns ls x = faS (gM ns ls) (wF ns ls).length (gO ns ls) x.toNat (wF ns ls).length from rfl)
  obtain ⟨A, c1, rfl⟩ := prs_form2 hn
  obtain ⟨A2, c2, rfl⟩ := prs_form2 hl
  clear hn hl
  generalize faR ns ls x = R at *
  generalize faB ns ls x = fb at *
  by_cases hh : wholeB ns ls = true
  · obtain ⟨o, ho, hol⟩ := outW_is hh
    have hO : gO ns ls = o := by unfold gO; rw [ho]; rfl
    have HIA := Lib.hid (fun xs => (show iaW ns ls xs = asB (besM (atW ns ls) ls.length) (wF ns ls).length o xs from by unfold iaW; rw [hh, gM_is hh, hO]; rfl))
    have HHH := Lib.hid hh
    have HSY := Lib.hid (besM_sym (atW ns ls) ls.length)
    rw [gM_is hh, hO] at HFB HFL
    rw [hh] at HWH HFB
    rw [ho] at HOU
    clear hh ho hO
    generalize besM (atW ns ls) ls.length = M at *
    generalize hrs : wF ns ls = rs at *
    clear hrs
    generalize faL ns ls x = FL at *
    have hw1 : wrap64 ((rs.length : Int) - 1) = (rs.length : Int) - 1 := IntWalk.wrap64_in _ (by omega)
    have HSI := Lib.hid (fun w => specIn x 0 ((rs.length : Int) - 1) w)
    have HII := Lib.hid (inB_iff x 0 ((rs.length : Int) - 1))
    generalize inB x 0 ((rs.length : Int) - 1) = ib at *
    go_enter Tryz.func30, Tryz.ntmps30
    obtain ⟨x0, x1, _⟩ := H0.out.1
    go_wp2_with fail
    refine (HWH.out _ (HN.out.step H0.out.below) (HL.out.step H0.out.below)).mono ?_
    rintro e w1 ⟨rfl, hb⟩
    have H1 := Lib.hid (H0.out.step hb)
    clear hb x0 x1
    obtain ⟨x0, x1, _⟩ := H1.out.1
    go_wp2_with fail
    refine (HFC.out _ (HN.out.step H1.out.below) (HL.out.step H1.out.below)).mono ?_
    rintro e w2 ⟨vf, rfl, hf, hb⟩
    obtain ⟨af, cf, rfl⟩ := faces_form hf
    have H2 := Lib.hid (H1.out.step hb)
    clear hb hf x0 x1
    obtain ⟨x0, x1, _⟩ := H2.out.1
    go_wp2_with fail
    refine (HSI.out _).mono ?_
    rintro e w3 ⟨rfl, rfl⟩
    cases ib
    · have HF := Lib.hid (HNO.out (by rw [HFB.out]; rfl))
      obtain rfl : fb = false := by rw [HFB.out]; rfl
      have HBX := Lib.hid H2.out.below
      go_wp2_with fail
      exact bodyPost_ret (v := .tuple #[.slice (some ⟨w2.heap.size, 0, none⟩) 0 0, .bool false]) (by simp [results, Tryz.results30, go_sem]) rfl (by unfold CwRet; exact ⟨⟨_, rfl, by rw [HF.out]; exact Ints.made _ _ _ rfl HBX.out.size⟩, HBX.out.alloc HBX.out.size _⟩)
    · obtain ⟨hx1, hx2⟩ := HII.out.1 (by first | rfl | trivial)
      obtain ⟨s, rfl⟩ : ∃ s : Nat, x = s := ⟨x.toNat, by omega⟩
      have hsN : s < rs.length := by omega
      have HF0 := Lib.hid (FasAt.zero (M := M) (out := o) hsN)
      clear hx1 hx2 HII
      go_wp2_with fail
      refine (HMT.out _ (HN.out.step H2.out.below) (HL.out.step H2.out.below) HHH.out).mono ?_
      rintro e w4 ⟨vm, g, rfl, hm, hb⟩
      have H4 := Lib.hid (H2.out.step hb)
      obtain ⟨gm, cm, rfl⟩ := hm.some_ (by omega)
      have HM4 := Lib.hid hm
      clear hm hb x0 x1
      obtain ⟨x0, x1, _⟩ := H4.out.1
      go_wp2_with fail
      refine (HOU.out _ (HN.out.step H4.out.below) (HL.out.step H4.out.below)).mono ?_
      rintro e w5 ⟨rfl, hb⟩
      have H5 := Lib.hid (H4.out.step hb)
      have HM5 := Lib.hid ((HM4.out.step hb).mono (b' := 0) (Nat.zero_le _))
      have HO5 := Lib.hid (Ints.made1 w5 w5.heap.size (s : Int) (Nat.le_refl _))
      have HB5 := Lib.hid (below_alloc w5 (.cells #[.int .i64 (s : Int)] 3))
      clear hb x0 x1 H0 H1 H2 H4 HM4
      have hs5 : w.heap.size ≤ w5.heap.size := H5.out.below.size
      obtain ⟨i0, hi, hz0, hz1, hz2⟩ := info_parts infoInt
      have HI := Lib.hid (And.intro hi (And.intro hz0 (And.intro hz1 hz2))); clear hi hz0 hz1 hz2
      go_wp2_with fail
      go_loopw [8] (fun v wr => ∃ (n : Nat) (xs : List Int), FasAt M rs.length o s n xs ∧ Ints wr w5.heap.size v xs ∧ Below w5.heap.size w5 wr) (fun v _ => rs.length - lenOf v)
      case atStart => exact ⟨0, _, HF0.out, HO5.out, HB5.out⟩
      case round =>
        clear HF0 HO5 HB5
        obtain ⟨n, xs, hfa, hi, hb⟩ := hrel
        have HFA := Lib.hid hfa
        have HXI := Lib.hid hi
        have HB := Lib.hid hb
        have hnN := hfa.lt
        have HXL := Lib.hid hfa.2.1
        have hxb : xs.length ≤ rs.length := hfa.2.2.1.len
        have hx0 : 0 < xs.length := by have := hfa.2.1; omega
        have HGD := Lib.hid hfa.2.2.1
        have HLN := Lib.hid (show nextL M rs.length o (setN xs) = fltN (lookP M o xs) rs.length from fltN_same fun k hk => look_next HSY.out hfa.2.2.1 hfa.pos hk)
        clear hfa hb
        obtain ⟨ga, ca, rfl⟩ := hi.some_ hx0
        clear hi
        go_wp2_with fail
        go_loopw [9, 10] (fun b i wr2 => ∃ (j : Nat) (c : Int), j ≤ rs.length ∧ i = .int .i64 ((j : Int) - 1) ∧ b = .int .i64 c ∧ BestR (lookP M o xs) rs.length j c ∧ Ints wr2 w5.heap.size (.slice (some ⟨ga, 0, none⟩) xs.length ca) xs ∧ Below w5.heap.size w5 wr2) (fun _ i _ => (intOf i + 1).toNat)
        case atStart => exact ⟨rs.length, -1, Nat.le_refl _, rfl, rfl, BestR.none _ _, HXI.out, HB.out⟩
        case round =>
          clear HXI HB
          obtain ⟨j, c, hj, rfl, rfl, hbr, hi, hb⟩ := hrel
          have HBR := Lib.hid hbr
          have HXI := Lib.hid hi
          have HB := Lib.hid hb
          clear hbr hi hb
          cases j with
          | zero =>
            have e0 : ((0 : Nat) : Int) - 1 = -1 := rfl
            rw [e0]
            have H6 := Lib.hid (H5.out.step HB.out)
            rcases HBR.out.end_ with ⟨rfl, hnil⟩ | ⟨f, t, rfl, hf, hcons⟩
            · rw [← HLN.out] at hnil
              have HXS := Lib.hid (show xs = FL from by rw [HFL.out, Int.toNat_natCast]; exact HFA.out.done hnil)
              have HAX := Lib.hid (HAS.out xs (.slice (some ⟨ga, 0, none⟩) xs.length ca) wr (HN.out.step H6.out.below) (HL.out.step H6.out.below) HXI.out.seq)
              have HIX := HIA.out xs
              have HFX := Lib.hid (show fb = asB M rs.length o xs from by rw [HFB.out, HXS.out]; rfl)
              rw [HIX, ← HFX.out] at HAX
              clear hnil HIX
              obtain ⟨x0, x1, _⟩ := H6.out.1
              go_wp2_with fail
              refine HAX.out.mono ?_
              rintro e w9 ⟨rfl, hb⟩
              have HBX := Lib.hid (H6.out.step hb).below
              have HX9 := Lib.hid (HXI.out.step hb)
              clear hb x0 x1
              cases fb
              · have HF := Lib.hid (HNO.out (by first | rfl | trivial))
                go_wp2_with fail
                exact bodyPost_ret (v := .tuple #[.slice (some ⟨w9.heap.size, 0, none⟩) 0 0, .bool false]) (by simp [results, Tryz.results30, go_sem]) rfl (by unfold CwRet; exact ⟨⟨_, rfl, by rw [HF.out]; exact Ints.made _ _ _ rfl HBX.out.size⟩, HBX.out.alloc HBX.out.size _⟩)
              · have HF := Lib.hid (HYES.out (by first | rfl | trivial))
                go_wp2_with fail
                exact bodyPost_ret (v := .tuple #[.slice (some ⟨ga, 0, none⟩) xs.length ca, .bool true]) (by simp [results, Tryz.results30, go_sem]) rfl (by unfold CwRet; exact ⟨⟨_, rfl, by rw [HF.out, ← HXS.out]; exact HX9.out.mono hs5⟩, HBX.out⟩)
            · rw [← HLN.out] at hcons
              have HFN := Lib.hid (HFA.out.next HSY.out hcons)
              have hfn := HFN.out.lt
              have f0 : ¬ (f : Int) < 0 := by omega
              have HZ5 := Lib.hid HB.out.size
              have hsz := HB.out.size
              clear hcons
              obtain ⟨hi, hz0, hz1, hz2⟩ := HI.out
              go_wp2_with (at_builtin; refine wpList_append_own _ rfl _ _ 37 rfl w5.heap.size 3 i0 (.int .i64 0) 1 8 Tryz.underlying37 hi hz0 hz1 hz2 rfl (by decide) _ _ _ rfl (World.ownsRow.alloc HXI.out _) ⟨_, 0, none⟩ 1 1 [.int .i64 f] rfl rfl ?c1 ?c2 ?c3 ?c4 ?c5 ?_)
              try (case c1 => exact cell_one_new _ _ _)
              case c2 => simp [Value.oneCell']
              case c3 => unfold maxLen; omega
              case c4 => omega
              case c5 => first | omega | (simp <;> omega)
              intro v' w9 hown hgrow hlo
              have HO9 := Lib.hid (Ints.more hown)
              have HB9 := Lib.hid (HB.out.trans (grown_below HXI.out HZ5.out hgrow))
              obtain ⟨a9, c9, rfl, -⟩ := HO9.out.form
              clear hown hgrow hi hz0 hz1 hz2
              have hl9 : (xs ++ [(f : Int)]).length = xs.length + 1 := by simp
              have hnl := HXL.out
              have hlt9 : xs.length < rs.length := by omega
              clear hnl
              have HMS := Lib.hid (show rs.length - lenOf (Value.slice a9 (xs ++ [(f : Int)]).length c9) < rs.length - lenOf (Value.slice (some ⟨ga, 0, none⟩) xs.length ca) from by simp only [lenOf]; omega)
              clear hl9
              go_wp2_with fail
              exact ⟨⟨n + 1, _, HFN.out, HO9.out, HB9.out⟩, HMS.out⟩
          | succ f =>
            have q1 : (0 : Int) ≤ f := by omega
            have q2 : (f : Int) < (rs.length : Int) := by omega
            have e0 : ((f + 1 : Nat) : Int) - 1 = (f : Int) := by omega
            rw [e0]
            have wf1 : wrap64 ((f : Int) - 1) = (f : Int) - 1 := IntWalk.wrap64_in _ (by omega)
            by_cases hfo : f = o
            · have HP := Lib.hid (show lookP M o xs f = false from by unfold lookP; simp [hfo])
              have e1 : ((f : Int) == (o : Int)) = true := by simp [hfo]
              clear hfo
              go_wp2_with fail
              exact ⟨⟨f, c, by omega, rfl, rfl, HBR.out.skip HP.out, HXI.out, HB.out⟩, by simp [intOf]⟩
            · have e1 : ((f : Int) == (o : Int)) = false := by rw [beq_eq_false_iff_ne]; omega
              have HFO := Lib.hid hfo; clear hfo
              go_wp2_with fail
              refine (HHA.out xs (.slice (some ⟨ga, 0, none⟩) xs.length ca) (f : Int) _ HXI.out.seq).mono ?_
              rintro e w6 ⟨rfl, hb⟩
              have HXI6 := Lib.hid (HXI.out.step hb)
              have HB6 := Lib.hid (HB.out.trans (hb.mono HB.out.size))
              clear hb
              cases hcn : xs.contains (f : Int)
              · have HCN := Lib.hid (show lookP M o xs f = xs.any (fun x => M x.toNat f) from by unfold lookP; rw [hcn, e1]; simp)
                have HAS2 := Lib.hid (fun i (h : i < xs.length) => anyT_succ (fun x => M x.toNat f) h)
                have HAE := Lib.hid (show anyT (fun x => M x.toNat f) xs xs.length = lookP M o xs f from by rw [anyT_all, HCN.out])
                have HA0 := Lib.hid (show anyT (fun x => M x.toNat f) xs 0 = false from rfl)
                clear hcn
                generalize anyT (fun x => M x.toNat f) xs = AT at *
                go_wp2_with fail
                go_loopw [9, 11] (fun b i wr3 => ∃ k : Nat, k ≤ xs.length ∧ i = .int .i64 k ∧ b = .int .i64 (if AT k = true then (f : Int) else c) ∧ Ints wr3 w5.heap.size (.slice (some ⟨ga, 0, none⟩) xs.length ca) xs ∧ Below w5.heap.size w5 wr3) (fun _ i _ => xs.length - (intOf i).toNat)
                case atStart => exact ⟨0, Nat.zero_le _, rfl, by rw [HA0.out]; rfl, HXI6.out, HB6.out⟩
                case round =>
                  clear HXI HB HXI6 HB6
                  obtain ⟨k, hk, rfl, rfl, hi, hb⟩ := hrel
                  have HXI := Lib.hid hi
                  have HB := Lib.hid hb
                  clear hi hb
                  by_cases hkl : k < xs.length
                  · obtain ⟨p, hp, hpN⟩ := HGD.out.at_ hkl
                    obtain ⟨t0, -, t1, -, -⟩ := HXI.out.at_ hkl
                    rw [hp] at t0
                    have HAK := Lib.hid (HAS2.out k hkl)
                    rw [hp, Int.toNat_natCast] at HAK
                    have hm := HM5.out.step HB.out
                    obtain ⟨y0, hgm⟩ := hm.cellRow hpN
                    obtain ⟨y1, y2, y3⟩ := hm.cell hpN (show f < rs.length by omega)
                    unfold rowVal at y0
                    have p0 : (0 : Int) ≤ p := by omega
                    have p1 : (p : Int) < (rs.length : Int) := by omega
                    have p2 : (0 : Int) ≤ k := by omega
                    have p3 : (k : Int) < (xs.length : Int) := by omega
                    clear hm hp
                    generalize M p f = c3 at *
                    cases c3
                    · have E := Lib.hid (show AT (k + 1) = AT k from by rw [HAK.out]; simp)
                      generalize hz : (if AT k = true then (f : Int) else c) = z at *
                      go_wp2_with fail
                      exact ⟨⟨k + 1, by omega, by go_num, by rw [E.out, hz], HXI.out, HB.out⟩, by simp [intOf]; omega⟩
                    · have E := Lib.hid (show AT (k + 1) = true from by rw [HAK.out]; simp)
                      generalize hz : (if AT k = true then (f : Int) else c) = z at *
                      clear hz
                      go_wp2_with fail
                      exact ⟨⟨k + 1, by omega, by go_num, by rw [E.out]; rfl, HXI.out, HB.out⟩, by simp [intOf]; omega⟩
                  · obtain rfl : k = xs.length := by omega
                    have HBF := Lib.hid (show BestR (lookP M o xs) rs.length f (if AT xs.length = true then (f : Int) else c) from by
                      rw [HAE.out]
                      split
                      · rename_i h; exact BestR.take (by omega) h
                      · rename_i h; exact HBR.out.skip (by simpa using h))
                    generalize (if AT xs.length = true then (f : Int) else c) = z at *
                    go_wp2_with fail
                    exact ⟨⟨f, z, by omega, rfl, rfl, HBF.out, HXI.out, HB.out⟩, by simp [intOf]⟩
              · have HP := Lib.hid (show lookP M o xs f = false from by unfold lookP; rw [hcn]; simp)
                clear hcn
                go_wp2_with fail
                exact ⟨⟨f, c, by omega, rfl, rfl, HBR.out.skip HP.out, HXI6.out, HB6.out⟩, by simp [intOf]⟩
  · rw [Bool.not_eq_true] at hh
    rw [hh] at HWH HFB
    obtain rfl : fb = false := by rw [HFB.out]; rfl
    have HF := Lib.hid (HNO.out (by first | rfl | trivial))
    clear hh HMT HOU HFL HFB
    go_enter Tryz.func30, Tryz.ntmps30
    obtain ⟨x0, x1, _⟩ := H0.out.1
    go_wp2_with fail
    refine (HWH.out _ (HN.out.step H0.out.below) (HL.out.step H0.out.below)).mono ?_
    rintro e w1 ⟨rfl, hb⟩
    have HBX := Lib.hid (H0.out.step hb).below
    go_wp2_with fail
    exact bodyPost_ret (v := .tuple #[.slice (some ⟨w1.heap.size, 0, none⟩) 0 0, .bool false]) (by simp [results, Tryz.results30, go_sem]) rfl (by unfold CwRet; exact ⟨⟨_, rfl, by rw [HF.out]; exact Ints.made _ _ _ rfl HBX.out.size⟩, HBX.out.alloc HBX.out.size _⟩)

theorem implWith1 (s i : Nat) (w : World) (hs : s < 4611686018427387904) (hi : i ≤ 60) :
    Calls Tryz.prog 77 #[.int .i64 s, .int .i64 i] w (fun e w' => e = .returned (.int .i64 ((s ||| 2 ^ i : Nat) : Int)) ∧ w = w') := by
  have e1 := shl_one hi
  have e2 := bits_or_nat hs (pow_in hi)
  rw [← natCast_pow_two] at e2
  have e3 : ((i : Int)).toNat = i := by omega
  have p1 : (0 : Int) ≤ i := by omega
  go_enter Tryz.func77, Tryz.ntmps77
  go_wp2_with fail
  go_ret
  exact ⟨by first | rfl | (simp [e1, e2, e3]), rfl⟩

set_option maxRecDepth 100000 in
set_option maxHeartbeats 1000000 in
theorem implFas (ns ls : List Nd) (vn vl : Value) (x : Int) (w : World) (hn : Prs w vn ns) (hl : Prs w vl ls) :
    Calls Tryz.prog 31 #[.agg #[vn, vl], .int .i64 x] w (CwRet (faB ns ls x) (faR ns ls x) w) := by
  have HSC := Lib.hid (fun w h1 h2 => implScaffold ns ls vn vl w h1 h2)
  unfold ScafRet at HSC
  rw [inW_is] at HSC
  have h13 := wF_thirteen ns ls
  have HGM := Lib.hid (show besM (gA ns ls) (gL ns ls).length = gM ns ls from rfl)
  rw [HGM.out] at HSC
  have HNX := Lib.hid (fun (D : Nat) vb W h (hD : D < 4611686018427387904) => implNext17 (gM ns ls) (wF ns ls).length (gO ns ls) D vb W h (by omega) hD)
  have HNX0 := Lib.hid (fun vb W h => (show Calls Tryz.prog 76 #[.agg #[.int .i64 ((inN (gO ns ls) (wF ns ls).length : Nat) : Int), vb], .int .i64 0] W (IntsNew (nextL (gM ns ls) (wF ns ls).length (gO ns ls) 0) W) from implNext17 (gM ns ls) (wF ns ls).length (gO ns ls) 0 vb W h (by omega) (by decide)))
  unfold IntsNew at HNX HNX0
  have HCN := Lib.hid (fun W u (h : Seq W u (nextL (gM ns ls) (wF ns ls).length (gO ns ls) 0)) => contains17 x h (Nat.le_trans (show (nextL (gM ns ls) (wF ns ls).length (gO ns ls) 0).length ≤ (wF ns ls).length from fltN_len _ _) (by omega)))
  unfold BoolIs at HCN
  have HNO := Lib.hid (fun h => faR_no (ns := ns) (ls := ls) (x := x) h)
  have HYES := Lib.hid (fun h => faR_yes (ns := ns) (ls := ls) (x := x) h)
  have HFB := Lib.hid (show faB ns ls x = (wholeB ns ls && (inB x 0 (((wF ns ls).length : Int) - 1) && asB (gM ns ls) (wF ns ls).length (gO ns ls) (faL ns ls x))) from rfl)
  have HFL := Lib.hid (show faL ns ls x = faS (gM ns ls) (wF ns ls).length (gO ns ls) x.toNat (wF ns ls).length from rfl)
  have HWN := Lib.hid (fun (h : wholeB ns ls = false) => wF_none h)
  have HOL := Lib.hid (fun (h : wholeB ns ls = true) => (show gO ns ls < (wF ns ls).length from by
    obtain ⟨o, ho, hol⟩ := outW_is h
    unfold gO; rw [ho]; simpa using hol))
  have HII := Lib.hid (inB_iff x 0 (((wF ns ls).length : Int) - 1))
  have HSY := Lib.hid (besM_sym (gA ns ls) (gL ns ls).length)
  rw [HGM.out] at HSY
  have HW1 := Lib.hid (fun (r i : Nat) w h1 h2 => implWith1 r i w h1 h2)
  have HN := Lib.hid hn
  have HL := Lib.hid hl
  have H0 := Lib.hid (held_pair w vn vl 30)
  obtain ⟨A, c1, rfl⟩ := prs_form2 hn
  obtain ⟨A2, c2, rfl⟩ := prs_form2 hl
  clear hn hl HGM
  generalize faR ns ls x = R at *
  generalize faB ns ls x = fb at *
  generalize faL ns ls x = FL at *
  generalize wholeB ns ls = wb at *
  generalize gM ns ls = M at *
  generalize gO ns ls = o at *
  generalize wF ns ls = rs at *
  generalize hIN : inN o rs.length = IN at *
  have HIN := Lib.hid hIN; clear hIN
  generalize hbs : besL M rs.length rs.length = bs at *
  clear hbs
  go_enter Tryz.func31, Tryz.ntmps31
  obtain ⟨x0, x1, _⟩ := H0.out.1
  go_wp2_with fail
  refine (HSC.out _ (HN.out.step H0.out.below) (HL.out.step H0.out.below)).mono ?_
  rintro e w1 ⟨vb, rfl, hb1, hb⟩
  have H1 := Lib.hid (H0.out.step hb)
  have HB := Lib.hid hb1.seq
  have G0 := Lib.hid (heldS w1 (.int .i64 ((IN : Nat) : Int)) vb 92)
  obtain ⟨ab, cb, rfl⟩ := hb1.form
  have hs1 : w.heap.size ≤ w1.heap.size := H1.out.below.size
  have HB1 := Lib.hid H1.out.below
  clear hb hb1 x0 x1 H0 H1
  obtain ⟨x0, x1, _⟩ := G0.out.1
  go_wp2_with fail
  refine (HNX0.out _ _ (HB.out.step G0.out.below)).mono ?_
  rintro e w2 ⟨v2, rfl, h2, hb⟩
  have G2 := Lib.hid (G0.out.step hb)
  have HQ2 := Lib.hid h2.seq
  obtain ⟨a2, c2', rfl, -⟩ := h2.form
  clear hb h2 x0 x1
  go_wp2_with fail
  refine (HCN.out _ _ HQ2.out).mono ?_
  rintro e w3 ⟨rfl, hb⟩
  have G3 := Lib.hid (G2.out.step hb)
  clear hb
  have HBX := Lib.hid (HB1.out.trans (G3.out.below.mono hs1))
  by_cases hc : (nextL M rs.length o 0).contains x = true
  · obtain ⟨q, rfl, hqN, hqo⟩ := first_next.1 hc
    have hwb : wb = true := by
      cases hwb : wb
      · rw [HWN.out hwb] at hqN; simp at hqN
      · rfl
    have hib : inB (q : Int) 0 ((rs.length : Int) - 1) = true := HII.out.2 ⟨by omega, by omega⟩
    have hol := HOL.out hwb
    have HFBX := Lib.hid (show fb = asB M rs.length o FL from by rw [HFB.out, hwb, hib]; rfl)
    have HF0 := Lib.hid (FasAt.zero (M := M) (out := o) hqN)
    have HEN := Lib.hid (fun (n : Nat) (xs : List Int) (h : FasAt M rs.length o q n xs) => (show asB M rs.length o xs = decide (setN xs = IN) from by rw [← HIN.out]; exact asB_end hol (h.2.2.2 hqo)))
    have HDL := Lib.hid (fun (n : Nat) (xs : List Int) (h : FasAt M rs.length o q n xs) => (show setN xs < 4611686018427387904 from setN_lt _ _ (fun x hx => by
      obtain ⟨p, rfl, hp⟩ := h.2.2.1.2 x hx
      simp; omega) (by decide)))
    have HWQ := Lib.hid (fun W => (show Calls Tryz.prog 77 #[.int .i64 0, .int .i64 q] W (fun e w' => e = .returned (.int .i64 ((setN [(q : Int)] : Nat) : Int)) ∧ W = w') from implWith1 0 q W (by decide) (by omega)))
    have HWK := Lib.hid (fun (xs : List Int) (f : Nat) W (h1 : setN xs < 4611686018427387904) (h2 : f ≤ 60) => (show Calls Tryz.prog 77 #[.int .i64 ((setN xs : Nat) : Int), .int .i64 f] W (fun e w' => e = .returned (.int .i64 ((setN (xs ++ [(f : Int)]) : Nat) : Int)) ∧ W = w') from by
      have h := implWith1 (setN xs) f W h1 h2
      rw [show setN (xs ++ [(f : Int)]) = setN xs ||| 2 ^ f from by unfold setN; rw [List.foldl_append]; rfl]
      exact h))
    rw [hc]
    clear hc hwb hib hol HBX
    have HO4 := Lib.hid (Ints.made1 w3 w3.heap.size (q : Int) (Nat.le_refl _))
    have G4 := Lib.hid (G3.out.alloc (.cells #[.int .i64 (q : Int)] 3))
    have hs3 : w.heap.size ≤ w3.heap.size := Nat.le_trans hs1 G3.out.below.size
    have hs13 : w1.heap.size + 1 ≤ w3.heap.size := G3.out.2.1.1
    obtain ⟨x0, x1, _⟩ := G4.out.1
    obtain ⟨x0, x1, _⟩ := G3.out.1
    go_wp2_with fail
    refine (HWQ.out _).mono ?_
    rintro e w4 ⟨rfl, rfl⟩
    go_wp2_with fail
    refine (HNX.out (setN [(q : Int)]) _ _ (HB.out.step G4.out.below) (HDL.out 0 _ HF0.out)).mono ?_
    rintro e w5 ⟨v5, rfl, h5, hb⟩
    have G5 := Lib.hid (G4.out.step hb)
    have HO5 := Lib.hid (HO4.out.step hb)
    have HC5 := Lib.hid h5
    have hs35 : (w3.alloc (.cells #[.int .i64 (q : Int)] 3)).heap.size = w3.heap.size + 1 := by simp
    clear hb h5 x0 x1
    clear G0 G2 G3 G4 HQ2
    obtain ⟨i1, hi, hz0, hz1, hz2⟩ := info_parts infoInt
    have HJ := Lib.hid (And.intro hi (And.intro hz0 (And.intro hz1 hz2))); clear hi hz0 hz1 hz2
    go_wp2_with fail
    go_loopw [8, 9, 10] (fun v D vc wr => ∃ (n : Nat) (xs : List Int) (B2 : Nat), FasAt M rs.length o q n xs ∧ Ints wr w3.heap.size v xs ∧ D = .int .i64 ((setN xs : Nat) : Int) ∧ Ints wr B2 vc (nextL M rs.length o (setN xs)) ∧ (∀ j, v.ownBlock = some j → j < B2) ∧ Held w1 wr [(w1.heap.size, 0, .int .i64 ((IN : Nat) : Int)), (w1.heap.size, 1, .slice ab bs.length cb)]) (fun v _ _ _ => rs.length - lenOf v)
    case atStart => exact ⟨0, _, _, HF0.out, HO5.out, rfl, HC5.out, fun j e => by simp [Value.ownBlock] at e; omega, G5.out⟩
    case round =>
      clear HF0 HO5 HC5 G5
      obtain ⟨n, xs, B2, hfa, hi, rfl, hc, hob, hh⟩ := hrel
      have HFA := Lib.hid hfa
      have HXI := Lib.hid hi
      have HC := Lib.hid hc
      have HOB := Lib.hid hob
      have HH := Lib.hid hh
      have hnN := hfa.lt
      have HXL := Lib.hid hfa.2.1
      have hxb : xs.length ≤ rs.length := hfa.2.2.1.len
      have hx0 : 0 < xs.length := by have := hfa.2.1; omega
      have HDX := Lib.hid (HDL.out n xs hfa)
      clear hfa hc hob hh
      obtain ⟨ga, ca, rfl⟩ := hi.some_ hx0
      clear hi
      obtain ⟨x0, x1, _⟩ := HH.out.1
      cases hnl : nextL M rs.length o (setN xs) with
      | nil =>
        have HXS := Lib.hid (show xs = FL from by rw [HFL.out, Int.toNat_natCast]; exact HFA.out.done hnl)
        have HEX := Lib.hid (show fb = decide (setN xs = IN) from by rw [HFBX.out, ← HXS.out]; exact HEN.out n xs HFA.out)
        rw [hnl] at HC
        obtain ⟨av, cv, rfl, -⟩ := HC.out.form
        simp only [List.length_nil]
        have HBX := Lib.hid (HB1.out.trans (HH.out.below.mono hs1))
        clear hnl
        by_cases he : setN xs = IN
        · obtain rfl : fb = true := by rw [HEX.out]; exact decide_eq_true he
          have HF := Lib.hid (HYES.out (by first | rfl | trivial))
          rw [he]
          clear he HEX HFBX HFB
          go_wp2_with fail
          exact bodyPost_ret (v := .tuple #[.slice (some ⟨ga, 0, none⟩) xs.length ca, .bool true]) (by simp [results, Tryz.results31, go_sem]) rfl (by unfold CwRet; exact ⟨⟨_, rfl, by rw [HF.out, ← HXS.out]; exact HXI.out.mono hs3⟩, HBX.out⟩)
        · obtain rfl : fb = false := by rw [HEX.out]; exact decide_eq_false he
          have HF := Lib.hid (HNO.out (by first | rfl | trivial))
          have e5 : (((setN xs : Nat) : Int) != (IN : Int)) = true := by simp; omega
          generalize ((setN xs : Nat) : Int) = z at *
          clear he HEX HFBX HFB
          go_wp2_with fail
          exact bodyPost_ret (v := .tuple #[.slice none 0 0, .bool false]) (by simp [results, Tryz.results31, go_sem]) rfl (by unfold CwRet; exact ⟨⟨_, rfl, by rw [HF.out]; exact Ints.nil _ _⟩, HBX.out⟩)
      | cons f0 t =>
        obtain ⟨f, rfl, hf, -, -⟩ := fltN_first hnl
        have HFN := Lib.hid (HFA.out.next HSY.out hnl)
        rw [hnl] at HC
        obtain ⟨gv, cv, rfl⟩ := HC.out.some_ (by simp)
        obtain ⟨t0, -, t1, -, -⟩ := HC.out.at_ (j := 0) (by simp)
        rw [show atZ ((f : Int) :: t) 0 = (f : Int) from rfl] at t0
        have hgv : ga < gv := Nat.lt_of_lt_of_le (HOB.out ga rfl) (HC.out.own gv rfl).1
        have hga : w3.heap.size ≤ ga := (HXI.out.own ga rfl).1
        have hl1 : (0 : Int) < (((f : Int) :: t).length : Int) := by simp
        clear hnl
        generalize hlv : ((f : Int) :: t).length = lv at *
        have HWX := Lib.hid (fun W => HWK.out xs f W HDX.out (by omega))
        have HRW := Lib.hid (show wr.ownsRow w3.heap.size 3 1 (.slice (some ⟨ga, 0, none⟩) xs.length ca) xs.length (xs.map fun x => .int .i64 x) from HXI.out)
        have hu1 : (xs.map fun x => Value.int .i64 x).length ≤ 40 := by rw [List.length_map]; omega
        have hsw : w3.heap.size ≤ wr.heap.size := Nat.le_trans hga (Nat.le_of_lt (Nat.lt_trans hgv t1))
        obtain ⟨hi, hz0, hz1, hz2⟩ := HJ.out
        have hne : (Value.slice (some ⟨ga, 0, none⟩) xs.length ca).ownBlock ≠ some gv := fun e => by simp [Value.ownBlock] at e; omega
        go_wp2_with fail
        go_region_law (first
          | (go_simp
             go_at_call 77
             refine (HWX.out _).mono ?_
             rintro e w6 ⟨rfl, rfl⟩)
          | ((refine step_append_lies _ (by rfl) _ _ _ (by rfl) w3.heap.size 3 i1 (.int .i64 0) 1 8 Tryz.underlying37 hi hz0 hz1 hz2 rfl (by omega) (.slice (some ⟨ga, 0, none⟩) xs.length ca) xs.length (xs.map fun x => .int .i64 x) (by rfl) (World.ownsRow.alloc (ownsRow_below_ HRW.out (Below.refl _ _).drew) _) ⟨wr.heap.size, 0, none⟩ 1 1 [.int .i64 f] (by rfl) (by rfl) (World.news_of_block (cs := #[.int .i64 f]) (t := 3) (fr := (0, 0)) (heap_alloc_new wr.drew _)) (by simp [Value.oneCell']) (by omega) (by unfold maxLen; omega) (by omega) (by simp; omega) (wr.heap.size + 1) (by simp) ?_
              intro gg cap w7 hown1 hgrow hat hlt7
              have k7 := (hgrow.cell_far ⟨gv, 0, none⟩ (Nat.lt_of_lt_of_le t1 (by simp)) (Ne.symm hne)).trans ((((Below.refl wr.heap.size wr).drew.alloc (Nat.le_refl _) (.cells #[.int .i64 f] 3)).cell (p := ⟨gv, 0, none⟩) t1).trans t0))))
        all_goals
          have hb7 : Below wr.heap.size wr (wr.drew.alloc (.cells #[.int .i64 f] 3)) := (Below.refl wr.heap.size wr).drew.alloc (Nat.le_refl _) _
          have H6 := Lib.hid (HH.out.step hb7)
          have H7 := Lib.hid (H6.out.grown hgrow ⟨fun e => by simp [Value.ownBlock] at e; omega, fun e => by simp [Value.ownBlock] at e; omega, trivial⟩ (fun j e => by simp [Value.ownBlock] at e; omega))
          have HO7 := Lib.hid (show Ints w7 w3.heap.size (.slice (some ⟨gg, 0, none⟩) (xs.length + 1) cap) (xs ++ [(f : Int)]) from Ints.more hown1)
          have hgg : gg < w7.heap.size := hlt7
          have HMS := Lib.hid (show rs.length - lenOf (Value.slice (some ⟨gg, 0, none⟩) (xs.length + 1) cap) < rs.length - lenOf (Value.slice (some ⟨ga, 0, none⟩) xs.length ca) from by simp only [lenOf]; have := HXL.out; have := HFN.out.lt; omega)
          clear x0 x1 hown1 hgrow hat hlt7 k7 hb7 H6 hi hz0 hz1 hz2 t0 t1 hne hu1 hl1
          obtain ⟨x0, x1, _⟩ := H7.out.1
          go_wp2_with fail
          refine (HNX.out (setN (xs ++ [(f : Int)])) _ _ (HB.out.step H7.out.below) (HDL.out (n + 1) _ HFN.out)).mono ?_
          rintro e w8 ⟨v8, rfl, h8, hb⟩
          have H8 := Lib.hid (H7.out.step hb)
          have HO8 := Lib.hid (HO7.out.step hb)
          have HC8 := Lib.hid h8
          clear hb h8 x0 x1
          go_wp2_with fail
          exact ⟨⟨n + 1, _, w7.heap.size, HFN.out, by simpa using HO8.out, rfl, HC8.out, fun j e => by simp [Value.ownBlock] at e; omega, H8.out⟩, HMS.out⟩
  · have HFF := Lib.hid (show fb = false from by
      rw [HFB.out]
      cases hwb : wb
      · rfl
      · cases hib : inB x 0 ((rs.length : Int) - 1)
        · rfl
        · obtain ⟨h0, h1⟩ := HII.out.1 hib
          have hq : x.toNat = o := Classical.byContradiction fun hne => hc (first_next.2 ⟨x.toNat, by omega, by omega, hne⟩)
          rw [HFL.out, hq]
          exact asB_wall _)
    rw [Bool.not_eq_true] at hc
    obtain rfl := HFF.out
    have HF := Lib.hid (HNO.out (by first | rfl | trivial))
    rw [hc]
    clear hc
    go_wp2_with fail
    exact bodyPost_ret (v := .tuple #[.slice none 0 0, .bool false]) (by simp [results, Tryz.results31, go_sem]) rfl (by unfold CwRet; exact ⟨⟨_, rfl, by rw [HF.out]; exact Ints.nil _ _⟩, HBX.out⟩)
end Go.Proofs.YtibgfbkepkjmbaaGreat
