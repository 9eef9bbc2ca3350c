/-
  PartOf, CountParts, CountFaces, CountPanes, IsForest, of the model and of the program.
-/
import Derived.Test.YtkkjcdilpbofmabPart
import Derived.Test.YtkkjcdilpbofmabLab
import Derived.Test.YtkkjcdilpbofmabAppI
namespace Go.Proofs.Ytkkjcdilpbofmab
open Go.RowKit
set_option linter.unusedVariables false
set_option linter.unusedSimpArgs false

def partI (ns ls : List Nd) (k : Int) : List Int := if hasB ns ls k = true then partL ns ls k.toNat else []
theorem partI_len (ns ls : List Nd) (k : Int) : (partI ns ls k).length ≤ 20 := by
  unfold partI
  split
  · rename_i h
    obtain ⟨_, _, _, _, h12, _⟩ := (show ∃ q : Nat, k = q ∧ q < ns.length ∧ winB ns ls = true ∧ ns.length ≤ 12 ∧ True from by
      unfold hasB at h
      simp only [Bool.and_eq_true] at h
      have h2 := (idxB_iff _ _).1 h.2
      have h3 := ((winB_iff ns ls).1 h.1).1
      exact ⟨k.toNat, by omega, by omega, h.1, h3.1.2, trivial⟩)
    have := fltN_len (fun p => decide (lab ls ls.length p = lab ls ls.length k.toNat)) ns.length
    unfold partL; omega
  · simp
def rootB (ls : List Nd) (p : Nat) : Bool := decide (lab ls ls.length p = p)
def partsI (ns ls : List Nd) : Int := if winB ns ls = true then ((fltN (rootB ls) ns.length).length : Int) else 0
def facesI (ns ls : List Nd) : Int := if winB ns ls = true then (ls.length : Int) - ns.length + 1 + partsI ns ls else 0
def panesI (ns ls : List Nd) : Int := max 0 (facesI ns ls - 1)
def forestB (ns ls : List Nd) : Bool := decide (facesI ns ls = 1)
theorem asc_head {l : List Int} (h : l.Pairwise (· < ·)) {x : Int} (hx : x ∈ l) (hm : ∀ y ∈ l, x ≤ y) : 0 < l.length ∧ atZ l 0 = x := by
  cases l with
  | nil => simp at hx
  | cons a t =>
    refine ⟨by simp, ?_⟩
    have h1 := hm a (by simp)
    rcases List.mem_cons.1 hx with e | hx
    · rw [e]; rfl
    · have := (List.pairwise_cons.1 h).1 x hx
      omega
theorem part_head {ns ls : List Nd} {q : Nat} (hq : q < ns.length) : 0 < (partL ns ls q).length ∧ atZ (partL ns ls q) 0 = (lab ls ls.length q : Nat) := by
  refine asc_head (fltN_asc _ _) ((fltN_mem _ _ _).2 ⟨lab ls ls.length q, rfl, by have := lab_le ls ls.length q; omega, by simp [lab_lab]⟩) fun y hy => ?_
  obtain ⟨p, rfl, hp, h⟩ := (fltN_mem _ _ _).1 hy
  have h' : lab ls ls.length p = lab ls ls.length q := by simpa using h
  have := lab_le ls ls.length p
  omega
theorem cnt_len (p : Nat → Bool) (m : Nat) : ((fltN p (m + 1)).length : Int) = if p m = true then ((fltN p m).length : Int) + 1 else ((fltN p m).length : Int) := by
  rw [fltN]
  split <;> simp

theorem cell_new0 (w : World) (x : Value) (T : TypeId) : (w.alloc (.cells #[x] T)).cell? ⟨w.heap.size, 0, none⟩ = some x := by rw [cell_of_cells (heap_alloc_new w _)]; rfl
theorem Ints.grown {w w' : World} {B : Nat} {v : Value} {xs : List Int} {row : Option Nat} (h : Ints w B v xs) (hg : w.grownBy w' row) (hne : ∀ k, v.ownBlock = some k → row ≠ some k) : Ints w' B v xs :=
  World.ownsRow.kept h hg (by
    cases e : v.ownBlock with
    | none => exact .inl rfl
    | some k => exact .inr (fun e2 => hne k e e2.symm))

set_option maxRecDepth 100000 in
theorem implPartOf (ns ls : List Nd) (vn vl : Value) (k : Int) (w : World) (hn : Prs w vn ns) (hl : Prs w vl ls) :
    Calls Try.prog 29 #[.agg #[vn, vl], .int .i64 k] w (IntsNew (partI ns ls k) w) := by
  have HN := Lib.hid hn
  have HL := Lib.hid hl
  obtain ⟨A, c, rfl⟩ := prs_form2 hn
  obtain ⟨A2, c2, rfl⟩ := prs_form2 hl
  clear hn hl
  have H0 := Lib.hid (held_pair w (.slice A ns.length c) (.slice A2 ls.length c2) 27)
  have HW := Lib.hid (fun w h1 h2 => implHasNode ns ls (.slice A ns.length c) (.slice A2 ls.length c2) k w h1 h2)
  have HD := Lib.hid (drawingOf_any A A2 ns.length c ls.length c2)
  unfold ValIs at HD
  by_cases hh : hasB ns ls k = true
  · have HR := Lib.hid (show partI ns ls k = partL ns ls k.toNat from if_pos hh)
    obtain ⟨q, rfl, hq, hw⟩ : ∃ q : Nat, k = q ∧ q < ns.length ∧ winB ns ls = true := by
      unfold hasB at hh
      simp only [Bool.and_eq_true] at hh
      have h2 := (idxB_iff _ _).1 hh.2
      exact ⟨k.toNat, by omega, by omega, hh.1⟩
    have HP := Lib.hid (fun w h1 h2 => implPart ns ls (.slice A ns.length c) (.slice A2 ls.length c2) q w h1 h2 hw hq)
    unfold IntsNew at HP
    rw [hh] at HW
    clear hh hw
    generalize partI ns ls (q : Int) = r at *
    go_enter Try.func29, Try.ntmps29
    go_wp2_with fail
    refine (HW.out _ (HN.out.step H0.out.below) (HL.out.step H0.out.below)).mono ?_
    rintro e wH1 ⟨rfl, hb⟩
    have H1 := Lib.hid ((H0.out).step hb); clear hb
    try clear x0 x1
    obtain ⟨x0, x1, _⟩ := H1.out.1
    go_wp2_with fail
    refine (HD.out _).mono ?_
    rintro e wH2 ⟨rfl, hb⟩
    have H2 := Lib.hid ((H1.out).step hb); clear hb
    try clear x0 x1
    obtain ⟨x0, x1, _⟩ := H2.out.1
    go_wp2_with fail
    refine (HP.out _ (HN.out.step H2.out.below) (HL.out.step H2.out.below)).mono ?_
    rintro e w3 ⟨v, rfl, hi, hb⟩
    have H3 := Lib.hid (H2.out.step hb)
    have HI := Lib.hid (hi.mono (b' := w.heap.size) (by have := H2.out.below.size; omega))
    clear hi hb
    go_wp2_with fail
    go_ret
    exact ⟨_, rfl, by rw [HR.out]; exact HI.out, H3.out.below⟩
  · have HR := Lib.hid (show partI ns ls k = [] from if_neg hh)
    rw [show hasB ns ls k = false by simpa using hh] at HW
    clear hh
    generalize partI ns ls k = r at *
    go_enter Try.func29, Try.ntmps29
    go_wp2_with fail
    refine (HW.out _ (HN.out.step H0.out.below) (HL.out.step H0.out.below)).mono ?_
    rintro e wH1 ⟨rfl, hb⟩
    have H1 := Lib.hid ((H0.out).step hb); clear hb
    try clear x0 x1
    obtain ⟨x0, x1, _⟩ := H1.out.1
    go_wp2_with fail
    go_ret
    exact ⟨_, rfl, by rw [HR.out]; exact Ints.nil _ _, H1.out.below⟩

set_option maxRecDepth 100000 in
set_option maxHeartbeats 2000000 in
theorem specPartOf (ns ls : List Nd) (vn vl : Value) (k : Int) (w : World) (hn : Prs w vn ns) (hl : Prs w vl ls) :
    Calls Try.prog 27 #[.agg #[vn, vl], .int .i64 k] w (IntsNew (partI ns ls k) w) := by
  have HN := Lib.hid hn
  have HL := Lib.hid hl
  have hlen := hn.len
  obtain ⟨A, c, rfl⟩ := prs_form2 hn
  obtain ⟨A2, c2, rfl⟩ := prs_form2 hl
  clear hn hl
  obtain ⟨i0, hi, hz0, hz1, hz2⟩ := info_parts infoInt
  have HI := Lib.hid (And.intro hi (And.intro hz0 (And.intro hz1 hz2))); clear hi hz0 hz1 hz2
  have H0 := Lib.hid (held_pair w (.slice A ns.length c) (.slice A2 ls.length c2) 27)
  have HW := Lib.hid (fun w h1 h2 => specWin ns ls (.slice A ns.length c) (.slice A2 ls.length c2) w h1 h2)
  have HIN := Lib.hid (fun w => idxB_in ns.length k ▸ specIn k 0 ((ns.length : Int) - 1) w)
  have HMD := Lib.hid (Ints.made (w.alloc (.cells #[.slice A ns.length c, .slice A2 ls.length c2] 27)) (w.heap.size + 1) (w.heap.size + 1) (by simp) (Nat.le_refl _))
  have HE := Lib.hid (show hasB ns ls k = (winB ns ls && idxB ns.length k) from rfl)
  by_cases hh : hasB ns ls k = true
  · have HR := Lib.hid (show partI ns ls k = partL ns ls k.toNat from if_pos hh)
    have hwb : winB ns ls = true := by unfold hasB at hh; simp at hh; exact hh.1
    have hib : idxB ns.length k = true := by unfold hasB at hh; simp at hh; exact hh.2
    obtain ⟨q, rfl, hq⟩ : ∃ q : Nat, k = q ∧ q < ns.length := by
      have h2 := (idxB_iff _ _).1 hib
      exact ⟨k.toNat, by omega, by omega⟩
    have h12 := ((winB_iff ns ls).1 hwb).1.1.2
    have HP := Lib.hid (fun w h1 h2 => specParts ns ls (.slice A ns.length c) (.slice A2 ls.length c2) w h1 h2 hwb)
    unfold IntsNew at HP
    rw [hwb] at HW
    rw [hib] at HIN
    clear hh hwb hib HE
    have HF := Lib.hid (fun m => (show fltN (fun p => decide (lab ls ls.length p = lab ls ls.length q)) (m + 1) = if decide (lab ls ls.length m = lab ls ls.length q) = true then fltN (fun p => decide (lab ls ls.length p = lab ls ls.length q)) m ++ [(m : Int)] else fltN (fun p => decide (lab ls ls.length p = lab ls ls.length q)) m from rfl))
    have HFL := Lib.hid (fltN_len (fun p => decide (lab ls ls.length p = lab ls ls.length q)))
    have HF0 := Lib.hid (show fltN (fun p => decide (lab ls ls.length p = lab ls ls.length q)) 0 = [] from rfl)
    have HFE := Lib.hid (show fltN (fun p => decide (lab ls ls.length p = lab ls ls.length q)) ns.length = partL ns ls ((q : Int)).toNat from rfl)
    generalize fltN (fun p => decide (lab ls ls.length p = lab ls ls.length q)) = F at *
    have HLA := Lib.hid (fun i (hi : i < ns.length) => (show atZ (labsL ns ls) i = (lab ls ls.length i : Nat) from genL_at _ hi))
    have HLL := Lib.hid (show (labsL ns ls).length = ns.length from genL_len _ _)
    generalize labsL ns ls = lb at *
    generalize partI ns ls (q : Int) = r at *
    go_enter Try.func27, Try.ntmps27
    go_wp2_with fail
    refine (HW.out _ (HN.out.step (H0.out.alloc _).below) (HL.out.step (H0.out.alloc _).below)).mono ?_
    rintro e w1 ⟨rfl, hb⟩
    have H1 := Lib.hid ((H0.out.alloc _).step hb)
    have HM1 := Lib.hid (HMD.out.step hb)
    have HS1 := Lib.hid (show w.heap.size + 2 ≤ w1.heap.size from by have := hb.size; simp at this; omega)
    clear hb HMD H0
    obtain ⟨x0, x1, _⟩ := H1.out.1
    go_wp2_with fail
    refine (HIN.out _).mono ?_
    rintro e w' ⟨rfl, rfl⟩
    go_wp2_with fail
    refine (HP.out _ (HN.out.step H1.out.below) (HL.out.step H1.out.below)).mono ?_
    rintro e w2 ⟨vl', rfl, hi, hb⟩
    have H2 := Lib.hid (H1.out.step hb)
    have HM2 := Lib.hid (HM1.out.step hb)
    obtain ⟨gl, cl, rfl⟩ := hi.some_ (by rw [HLL.out]; omega)
    have HS2 := Lib.hid hi
    rw [HLL.out] at HS2 ⊢
    have hbs := HS1.out
    clear hi hb x0 x1 HM1 H1
    obtain ⟨x0, x1, _⟩ := H2.out.1
    go_wp2_with fail
    have hS2 := (HS2.out.own gl rfl).1
    have HN0 : ∀ k, (Value.slice (some ⟨w.heap.size + 1, 0, none⟩) 0 0).ownBlock = some k → k ≠ gl := by
      intro k hk
      have hk' : w.heap.size + 1 = k := by simpa [Value.ownBlock] using hk
      omega
    go_loopw [5, 7] (fun v i wr => ∃ m : Nat, m ≤ ns.length ∧ i = .int .i64 m ∧ Ints wr (w.heap.size + 1) v (F m) ∧ Ints wr w1.heap.size (.slice (some ⟨gl, 0, none⟩) ns.length cl) lb ∧ (∀ k, v.ownBlock = some k → k ≠ gl) ∧ Held w wr [(w.heap.size, 0, .slice A ns.length c), (w.heap.size, 1, .slice A2 ls.length c2)]) (fun _ i _ => ns.length - (intOf i).toNat)
    case atStart => exact ⟨0, Nat.zero_le _, rfl, by rw [HF0.out]; exact HM2.out, HS2.out, HN0, H2.out⟩
    case round =>
      clear HM2 HS2 H2 x0 x1 hS2 HN0
      obtain ⟨m, hm, rfl, hown, hlab, hne, hh⟩ := hrel
      have HOWN := Lib.hid hown; clear hown
      have HLB := Lib.hid hlab; clear hlab
      have HNE := Lib.hid hne; clear hne
      have H1 := Lib.hid hh; clear hh
      by_cases hlt : m < ns.length
      · have hlg := HLL.out
        obtain ⟨c0, -, hgl0, -, -⟩ := HLB.out.at_ (j := m) (by omega)
        obtain ⟨c1, -, -, -, -⟩ := HLB.out.at_ (j := q) (by omega)
        rw [HLA.out m hlt] at c0
        rw [HLA.out q hq] at c1
        have HS := Lib.hid (HF.out m)
        have hfl := HFL.out m
        have hz1 : (m : Int) < (ns.length : Int) := by omega
        have hz2 : (0 : Int) ≤ m := by omega
        have hz3 : (q : Int) < (ns.length : Int) := by omega
        have hz4 : (0 : Int) ≤ q := by omega
        generalize lab ls ls.length m = lm at *
        generalize lab ls ls.length q = lq at *
        clear hlg
        by_cases heq : lm = lq
        · have gq : ((lm : Int) == (lq : Int)) = true := by simp [heq]
          have HQ := Lib.hid heq; clear heq
          go_wp2_with fail
          go_quiet (fail)
          obtain ⟨hi, hz0, hz1', hz2'⟩ := HI.out
          have hsz := H1.out.2.1.1
          go_wp2_with (at_builtin; refine wpList_append_int rfl _ _ 30 rfl Try.underlying30 hi hz0 hz1' hz2' (World.ownsRow.alloc ((HOWN.out.step (below_drewN (Below.refl _ _) _))) _) rfl rfl (cell_new0 _ _ _) (by omega) (by simp; omega) ?_)
          intro v' w5 hown hgrow hfresh
          have HOD := Lib.hid (HOWN.out.step (below_drewN (Below.refl wr.heap.size wr) nq))
          have HLD := Lib.hid (HLB.out.step (below_drewN (Below.refl wr.heap.size wr) nq))
          have H4 := Lib.hid ((H1.out.drewN nq).stepB (B := w.heap.size + 1) ⟨Nat.lt_succ_self _, Nat.lt_succ_self _, trivial⟩ (grown_below HOD.out hsz hgrow) (Nat.le_succ _))
          have HNG : ∀ k, (Value.slice (some ⟨gl, 0, none⟩) ns.length cl).ownBlock = some k → u5.ownBlock ≠ some k := by
            intro k hk e
            have hk' : gl = k := by simpa [Value.ownBlock] using hk
            exact HNE.out k e hk'.symm
          have HL5 := Lib.hid ((Ints.step HLD.out ((Below.refl _ _).alloc (Nat.le_refl _) _)).grown hgrow HNG)
          have HN5 := Lib.hid (show ∀ k, v'.ownBlock = some k → k ≠ gl from fun k hk => by
            rcases hfresh with e | e
            · exact HNE.out k (by rw [← e]; exact hk)
            · rw [e] at hk
              have hk2 : wr.heap.size + 1 = k := by simpa using hk
              omega)
          have HO5 := Lib.hid (Ints.more (xs := F m) (x := (m : Int)) (by simpa using hown))
          clear hown hgrow hfresh
          go_wp2_with fail
          exact ⟨⟨m + 1, by omega, by go_num, by rw [HS.out, if_pos (show decide (lm = lq) = true from decide_eq_true HQ.out)]; exact HO5.out, HL5.out, HN5.out, H4.out⟩, by simp [intOf]; omega⟩
        · have gq : ((lm : Int) == (lq : Int)) = false := by rw [beq_eq_false_iff_ne]; omega
          have HQ := Lib.hid heq; clear heq
          go_wp2_with fail
          go_quiet (fail)
          go_wp2_with fail
          have HOD := Lib.hid (HOWN.out.step (below_drewN (Below.refl wr.heap.size wr) nq))
          have HLD := Lib.hid (HLB.out.step (below_drewN (Below.refl wr.heap.size wr) nq))
          exact ⟨⟨m + 1, by omega, by go_num, by rw [HS.out, if_neg (show ¬ decide (lm = lq) = true from fun h => HQ.out (of_decide_eq_true h))]; exact HOD.out, HLD.out, HNE.out, H1.out.drewN nq⟩, by simp [intOf]; omega⟩
      · obtain rfl : m = ns.length := by omega
        go_wp2_with fail
        go_ret
        exact ⟨_, rfl, by rw [HR.out, ← HFE.out]; exact HOWN.out.mono (by omega), H1.out.below⟩
  · have HR := Lib.hid (show partI ns ls k = [] from if_neg hh)
    have HE0 : (winB ns ls && idxB ns.length k) = false := by rw [← HE.out]; simpa using hh
    clear hh HE
    generalize partI ns ls k = r at *
    generalize winB ns ls = d at *
    generalize idxB ns.length k = b at *
    cases d
    · go_enter Try.func27, Try.ntmps27
      go_wp2_with fail
      refine (HW.out _ (HN.out.step (H0.out.alloc _).below) (HL.out.step (H0.out.alloc _).below)).mono ?_
      rintro e w1 ⟨rfl, hb⟩
      have H1 := Lib.hid ((H0.out.alloc _).step hb)
      have HM1 := Lib.hid ((HMD.out.step hb).mono (b' := w.heap.size) (by omega))
      clear hb
      go_wp2_with fail
      go_ret
      exact ⟨_, rfl, by rw [HR.out]; exact HM1.out, H1.out.below⟩
    · obtain rfl : b = false := by simpa using HE0
      go_enter Try.func27, Try.ntmps27
      go_wp2_with fail
      refine (HW.out _ (HN.out.step (H0.out.alloc _).below) (HL.out.step (H0.out.alloc _).below)).mono ?_
      rintro e w1 ⟨rfl, hb⟩
      have H1 := Lib.hid ((H0.out.alloc _).step hb)
      have HM1 := Lib.hid ((HMD.out.step hb).mono (b' := w.heap.size) (by omega))
      clear hb
      obtain ⟨x0, x1, _⟩ := H1.out.1
      go_wp2_with fail
      refine (HIN.out _).mono ?_
      rintro e w' ⟨rfl, rfl⟩
      go_wp2_with fail
      go_ret
      exact ⟨_, rfl, by rw [HR.out]; exact HM1.out, H1.out.below⟩

set_option maxRecDepth 100000 in
set_option maxHeartbeats 2000000 in
theorem implParts (ns ls : List Nd) (vn vl : Value) (w : World) (hn : Prs w vn ns) (hl : Prs w vl ls) :
    Calls Try.prog 36 #[.agg #[vn, vl]] w (IntIs (partsI ns ls) w) := by
  have HN := Lib.hid hn
  have HL := Lib.hid hl
  have hlen := hn.len
  obtain ⟨A, c, rfl⟩ := prs_form2 hn
  obtain ⟨A2, c2, rfl⟩ := prs_form2 hl
  clear hn hl
  have H0 := Lib.hid (held_pair w (.slice A ns.length c) (.slice A2 ls.length c2) 27)
  have HW := Lib.hid (fun w h1 h2 => implWin ns ls (.slice A ns.length c) (.slice A2 ls.length c2) w h1 h2)
  have HD := Lib.hid (drawingOf_any A A2 ns.length c ls.length c2)
  unfold ValIs at HD
  by_cases hw : winB ns ls = true
  · have HR := Lib.hid (show partsI ns ls = ((fltN (rootB ls) ns.length).length : Int) from if_pos hw)
    have h12 := ((winB_iff ns ls).1 hw).1.1.2
    have HP := Lib.hid (fun q (hq : q < ns.length) w h1 h2 => implPart ns ls (.slice A ns.length c) (.slice A2 ls.length c2) q w h1 h2 hw hq)
    unfold IntsNew at HP
    have HPH := Lib.hid (fun q (hq : q < ns.length) => part_head (ls := ls) hq)
    have HCL := Lib.hid (cnt_len (rootB ls))
    have HFL := Lib.hid (fltN_len (rootB ls))
    have HPL := Lib.hid (fun q => fltN_len (fun p => decide (lab ls ls.length p = lab ls ls.length q)) ns.length)
    have HRB := Lib.hid (fun m => (show rootB ls m = decide (lab ls ls.length m = m) from rfl))
    have HZ := Lib.hid (show fltN (rootB ls) 0 = [] from rfl)
    rw [hw] at HW
    clear hw
    generalize partsI ns ls = r at *
    generalize rootB ls = p at *
    go_enter Try.func36, Try.ntmps36
    go_wp2_with fail
    refine (HW.out _ (HN.out.step H0.out.below) (HL.out.step H0.out.below)).mono ?_
    rintro e wH1 ⟨rfl, hb⟩
    have H1 := Lib.hid ((H0.out).step hb); clear hb
    try clear x0 x1
    obtain ⟨x0, x1, _⟩ := H1.out.1
    go_wp2_with fail
    refine (HD.out _).mono ?_
    rintro e w2 ⟨rfl, hb⟩
    have H2 := Lib.hid (H1.out.step hb); clear hb x0 x1
    have H3 := Lib.hid ((H2.out.drop).new2 w2.heap.size rfl [.slice A ns.length c, .slice A2 ls.length c2] 70)
    obtain ⟨x0, x1, _⟩ := H3.out.1
    go_wp2_with fail
    go_loopw [4, 14] (fun v i wr => ∃ m : Nat, m ≤ ns.length ∧ i = .int .i64 m ∧ v = .int .i64 (fltN p m).length ∧ Held w wr [(w2.heap.size, 0, .slice A ns.length c), (w2.heap.size, 1, .slice A2 ls.length c2)]) (fun _ i _ => ns.length - (intOf i).toNat)
    case atStart => exact ⟨0, Nat.zero_le _, rfl, by rw [HZ.out]; rfl, H3.out⟩
    case round =>
      clear H3 H2 H1 H0 x0 x1
      obtain ⟨m, hm, rfl, rfl, hh⟩ := hrel
      have H1 := Lib.hid hh; clear hh
      obtain ⟨x0, x1, _⟩ := H1.out.1
      by_cases hlt : m < ns.length
      · have HC := Lib.hid (fun w h1 h2 => HP.out m hlt w h1 h2)
        have hph := HPH.out m hlt
        have hfl := HFL.out m
        have HS := Lib.hid (HCL.out m)
        have HB := Lib.hid (HRB.out m)
        have hpl : (partL ns ls m).length ≤ ns.length := HPL.out m
        have hz1 : (m : Int) < (ns.length : Int) := by omega
        have hz2 : (0 : Int) ≤ m := by omega
        generalize partL ns ls m = ps at *
        generalize (fltN p m).length = f0 at *
        generalize lab ls ls.length m = lm at *
        go_wp2_with fail
        refine (HC.out _ (HN.out.step H1.out.below) (HL.out.step H1.out.below)).mono ?_
        rintro e w3 ⟨v, rfl, hi, hb⟩
        have H4 := Lib.hid (H1.out.step hb)
        obtain ⟨gg, cg, rfl⟩ := hi.some_ hph.1
        obtain ⟨c0, -, -, -, -⟩ := hi.at_ hph.1
        rw [hph.2] at c0
        have hz3 : (0 : Int) < (ps.length : Int) := by have := hph.1; omega
        clear hi hb hph x0 x1
        by_cases hq : lm = m
        · have gq : ((lm : Int) == (m : Int)) = true := by simp [hq]
          have HQ := Lib.hid (show p m = true from by rw [HB.out]; simp [hq]); clear hq
          go_wp2_with fail
          exact ⟨⟨m + 1, by omega, by go_num, by rw [HS.out, if_pos HQ.out], H4.out⟩, by simp [intOf]; omega⟩
        · have gq : ((lm : Int) == (m : Int)) = false := by rw [beq_eq_false_iff_ne]; omega
          have HQ := Lib.hid (show ¬ p m = true from by rw [HB.out]; simp [hq]); clear hq
          go_wp2_with fail
          exact ⟨⟨m + 1, by omega, by go_num, by rw [HS.out, if_neg HQ.out], H4.out⟩, by simp [intOf]; omega⟩
      · obtain rfl : m = ns.length := by omega
        go_wp2_with fail
        go_ret
        exact ⟨ret_int (by rw [HR.out]), H1.out.below⟩
  · have HR := Lib.hid (show partsI ns ls = 0 from if_neg hw)
    rw [show winB ns ls = false by simpa using hw] at HW
    clear hw
    generalize partsI ns ls = r at *
    go_enter Try.func36, Try.ntmps36
    go_wp2_with fail
    refine (HW.out _ (HN.out.step H0.out.below) (HL.out.step H0.out.below)).mono ?_
    rintro e wH1 ⟨rfl, hb⟩
    have H1 := Lib.hid ((H0.out).step hb); clear hb
    try clear x0 x1
    obtain ⟨x0, x1, _⟩ := H1.out.1
    go_wp2_with fail
    go_ret
    exact ⟨ret_int (by rw [HR.out]), H1.out.below⟩

set_option maxRecDepth 100000 in
set_option maxHeartbeats 2000000 in
theorem specPartsC (ns ls : List Nd) (vn vl : Value) (w : World) (hn : Prs w vn ns) (hl : Prs w vl ls) :
    Calls Try.prog 35 #[.agg #[vn, vl]] w (IntIs (partsI ns ls) w) := by
  have HN := Lib.hid hn
  have HL := Lib.hid hl
  have hlen := hn.len
  obtain ⟨A, c, rfl⟩ := prs_form2 hn
  obtain ⟨A2, c2, rfl⟩ := prs_form2 hl
  clear hn hl
  have H0 := Lib.hid (held_pair w (.slice A ns.length c) (.slice A2 ls.length c2) 27)
  have HW := Lib.hid (fun w h1 h2 => specWin ns ls (.slice A ns.length c) (.slice A2 ls.length c2) w h1 h2)
  by_cases hw : winB ns ls = true
  · have HR := Lib.hid (show partsI ns ls = ((fltN (rootB ls) ns.length).length : Int) from if_pos hw)
    have h12 := ((winB_iff ns ls).1 hw).1.1.2
    have h1 := ((winB_iff ns ls).1 hw).1.1.1
    have HP := Lib.hid (fun w h1 h2 => specParts ns ls (.slice A ns.length c) (.slice A2 ls.length c2) w h1 h2 hw)
    unfold IntsNew at HP
    have HLA := Lib.hid (fun i (hi : i < ns.length) => (show atZ (labsL ns ls) i = (lab ls ls.length i : Nat) from genL_at _ hi))
    have HLL := Lib.hid (show (labsL ns ls).length = ns.length from genL_len _ _)
    generalize labsL ns ls = lb at *
    have HCL := Lib.hid (cnt_len (rootB ls))
    have HFL := Lib.hid (fltN_len (rootB ls))
    have HRB := Lib.hid (fun m => (show rootB ls m = decide (lab ls ls.length m = m) from rfl))
    have HZ := Lib.hid (show fltN (rootB ls) 0 = [] from rfl)
    rw [hw] at HW
    clear hw
    generalize partsI ns ls = r at *
    generalize rootB ls = p at *
    go_enter Try.func35, Try.ntmps35
    go_wp2_with fail
    refine (HW.out _ (HN.out.step H0.out.below) (HL.out.step H0.out.below)).mono ?_
    rintro e wH1 ⟨rfl, hb⟩
    have H1 := Lib.hid ((H0.out).step hb); clear hb
    try clear x0 x1
    obtain ⟨x0, x1, _⟩ := H1.out.1
    go_wp2_with fail
    refine (HP.out _ (HN.out.step H1.out.below) (HL.out.step H1.out.below)).mono ?_
    rintro e w2 ⟨vl', rfl, hi, hb⟩
    have H2 := Lib.hid (H1.out.step hb)
    obtain ⟨gl, cl, rfl⟩ := hi.some_ (by rw [HLL.out]; omega)
    have HS2 := Lib.hid hi
    rw [HLL.out] at HS2 ⊢
    clear hi hb x0 x1 H1
    go_wp2_with fail
    go_loopw [4, 5] (fun v i wr => ∃ m : Nat, m ≤ ns.length ∧ i = .int .i64 m ∧ v = .int .i64 (fltN p m).length ∧ wr = w2) (fun _ i _ => ns.length - (intOf i).toNat)
    case atStart => exact ⟨0, Nat.zero_le _, rfl, by rw [HZ.out]; rfl, rfl⟩
    case round =>
      obtain ⟨m, hm, rfl, rfl, rfl⟩ := hrel
      by_cases hlt : m < ns.length
      · have hlg := HLL.out
        obtain ⟨c0, -, -, -, -⟩ := HS2.out.at_ (j := m) (by omega)
        rw [HLA.out m hlt] at c0
        have hfl := HFL.out m
        have HS := Lib.hid (HCL.out m)
        have HB := Lib.hid (HRB.out m)
        have hz1 : (m : Int) < (ns.length : Int) := by omega
        have hz2 : (0 : Int) ≤ m := by omega
        generalize (fltN p m).length = f0 at *
        generalize lab ls ls.length m = lm at *
        clear hlg
        by_cases hq : lm = m
        · have gq : ((lm : Int) == (m : Int)) = true := by simp [hq]
          have HQ := Lib.hid (show p m = true from by rw [HB.out]; simp [hq]); clear hq
          go_wp2_with fail
          exact ⟨⟨m + 1, by omega, by go_num, by rw [HS.out, if_pos HQ.out], trivial⟩, by simp [intOf]; omega⟩
        · have gq : ((lm : Int) == (m : Int)) = false := by rw [beq_eq_false_iff_ne]; omega
          have HQ := Lib.hid (show ¬ p m = true from by rw [HB.out]; simp [hq]); clear hq
          go_wp2_with fail
          exact ⟨⟨m + 1, by omega, by go_num, by rw [HS.out, if_neg HQ.out], trivial⟩, by simp [intOf]; omega⟩
      · obtain rfl : m = ns.length := by omega
        go_wp2_with fail
        go_ret
        exact ⟨ret_int (by rw [HR.out]), H2.out.below⟩
  · have HR := Lib.hid (show partsI ns ls = 0 from if_neg hw)
    rw [show winB ns ls = false by simpa using hw] at HW
    clear hw
    generalize partsI ns ls = r at *
    go_enter Try.func35, Try.ntmps35
    go_wp2_with fail
    refine (HW.out _ (HN.out.step H0.out.below) (HL.out.step H0.out.below)).mono ?_
    rintro e wH1 ⟨rfl, hb⟩
    have H1 := Lib.hid ((H0.out).step hb); clear hb
    try clear x0 x1
    obtain ⟨x0, x1, _⟩ := H1.out.1
    go_wp2_with fail
    go_ret
    exact ⟨ret_int (by rw [HR.out]), H1.out.below⟩

theorem facesI_bound (ns ls : List Nd) : -100 ≤ facesI ns ls ∧ facesI ns ls ≤ 100 := by
  unfold facesI
  by_cases hw : winB ns ls = true
  · have h12 := ((winB_iff ns ls).1 hw).1.1.2
    have h20 := ((winB_iff ns ls).1 hw).1.2
    have := fltN_len (rootB ls) ns.length
    rw [if_pos hw]
    unfold partsI
    rw [if_pos hw]; omega
  · rw [if_neg hw]; omega

set_option maxRecDepth 100000 in
theorem implFaces (ns ls : List Nd) (vn vl : Value) (w : World) (hn : Prs w vn ns) (hl : Prs w vl ls) :
    Calls Try.prog 38 #[.agg #[vn, vl]] w (IntIs (facesI ns ls) w) := by
  have HN := Lib.hid hn
  have HL := Lib.hid hl
  have hlen := hn.len
  obtain ⟨A, c, rfl⟩ := prs_form2 hn
  obtain ⟨A2, c2, rfl⟩ := prs_form2 hl
  clear hn hl
  have H0 := Lib.hid (held_pair w (.slice A ns.length c) (.slice A2 ls.length c2) 27)
  have HW := Lib.hid (fun w h1 h2 => implWin ns ls (.slice A ns.length c) (.slice A2 ls.length c2) w h1 h2)
  have HC := Lib.hid (fun w h1 h2 => implParts ns ls (.slice A ns.length c) (.slice A2 ls.length c2) w h1 h2)
  by_cases hw : winB ns ls = true
  · have HR := Lib.hid (show facesI ns ls = (ls.length : Int) - ns.length + 1 + partsI ns ls from if_pos hw)
    have h12 := ((winB_iff ns ls).1 hw).1.1.2
    have h20 := ((winB_iff ns ls).1 hw).1.2
    have hp : 0 ≤ partsI ns ls ∧ partsI ns ls ≤ 12 := by
      have := fltN_len (rootB ls) ns.length
      unfold partsI
      rw [if_pos hw]; omega
    rw [hw] at HW
    clear hw
    generalize facesI ns ls = r at *
    generalize partsI ns ls = f at *
    obtain ⟨x, hx⟩ : ∃ x : Int, (ls.length : Int) - ns.length = x := ⟨_, rfl⟩
    rw [hx] at HR
    have e1 : IntKind.i64.wrap ((ls.length : Int) - ns.length) = x := by rw [IntWalk.i64_in _ (by omega), hx]
    have e2 : IntKind.i64.wrap (x + 1) = x + 1 := IntWalk.i64_in _ (by omega)
    have e3 : IntKind.i64.wrap (x + 1 + f) = r := by rw [HR.out, IntWalk.i64_in _ (by omega)]
    clear hx hp h12 h20
    go_enter Try.func38, Try.ntmps38
    go_wp2_with fail
    refine (HW.out _ (HN.out.step H0.out.below) (HL.out.step H0.out.below)).mono ?_
    rintro e wH1 ⟨rfl, hb⟩
    have H1 := Lib.hid ((H0.out).step hb); clear hb
    try clear x0 x1
    obtain ⟨x0, x1, _⟩ := H1.out.1
    go_wp2_with fail
    refine regionD (S := fun W => Held _ W [(w.heap.size, 0, .slice A ns.length c), (w.heap.size, 1, .slice A2 ls.length c2)]) (by kernel_rfl) H1.out.drew ?_
    iterate 12 (refine takeT (v := ?_) rfl (by kernel_rfl) (by kernel_rfl) (by kernel_rfl) ?_ ?_; rotate_left; (first | (refine Or.inr ⟨by rfl, ?_⟩; with_reducible rfl) | (refine Or.inl ⟨by rfl, fun W hS => detRes_value (w' := W) ?_ hS⟩; obtain ⟨x0, x1, _⟩ := hS.1; go_simp; first | done | with_reducible rfl) | (refine Or.inl ⟨by rfl, fun W hS => ?_⟩; refine detRes_call (w' := W) (f := ?_) (args := ?_) ?_ ?_; rotate_left 2; (go_simp; (refine ⟨?_, ?_⟩ <;> with_reducible rfl)); (first | (with_reducible refine (HC.out _ (HN.out.step hS.below) (HL.out.step hS.below)).mono ?_) | fail); (first | (rintro e wn ⟨rfl, hb⟩; refine ⟨?_, hS.step hb⟩; with_reducible rfl) | (rintro e wn ⟨rfl, rfl⟩; refine ⟨?_, hS⟩; with_reducible rfl) | fail)) | fail); (simp only [Act.put, List.setIfInBounds_toArray, List.set_cons_zero, List.set_cons_succ]))
    refine doneD (by kernel_rfl) fun wH2 HS => ?_
    have H2 := Lib.hid HS; clear HS
    try clear x0 x1
    obtain ⟨x0, x1, _⟩ := H2.out.1
    go_wp2_with fail
    go_ret
    exact ⟨ret_int rfl, H2.out.below⟩
  · have HR := Lib.hid (show facesI ns ls = 0 from if_neg hw)
    rw [show winB ns ls = false by simpa using hw] at HW
    clear hw
    generalize facesI ns ls = r at *
    go_enter Try.func38, Try.ntmps38
    go_wp2_with fail
    refine (HW.out _ (HN.out.step H0.out.below) (HL.out.step H0.out.below)).mono ?_
    rintro e wH1 ⟨rfl, hb⟩
    have H1 := Lib.hid ((H0.out).step hb); clear hb
    try clear x0 x1
    obtain ⟨x0, x1, _⟩ := H1.out.1
    go_wp2_with fail
    go_ret
    exact ⟨ret_int (by rw [HR.out]), H1.out.below⟩

set_option maxRecDepth 100000 in
theorem implPanes (ns ls : List Nd) (vn vl : Value) (w : World) (hn : Prs w vn ns) (hl : Prs w vl ls) :
    Calls Try.prog 40 #[.agg #[vn, vl]] w (IntIs (panesI ns ls) w) := by
  have HN := Lib.hid hn
  have HL := Lib.hid hl
  have hlen := hn.len
  obtain ⟨A, c, rfl⟩ := prs_form2 hn
  obtain ⟨A2, c2, rfl⟩ := prs_form2 hl
  clear hn hl
  have H0 := Lib.hid (held_pair w (.slice A ns.length c) (.slice A2 ls.length c2) 27)
  have HC := Lib.hid (fun w h1 h2 => implFaces ns ls (.slice A ns.length c) (.slice A2 ls.length c2) w h1 h2)
  have hr : panesI ns ls = max 0 (facesI ns ls - 1) := rfl
  have hb := facesI_bound ns ls
  generalize panesI ns ls = r at *
  generalize facesI ns ls = f at *
  have HR := Lib.hid hr; clear hr
  go_enter Try.func40, Try.ntmps40
  go_wp2_with fail
  refine (HC.out _ (HN.out.step H0.out.below) (HL.out.step H0.out.below)).mono ?_
  rintro e wH1 ⟨rfl, hb⟩
  have H1 := Lib.hid ((H0.out).step hb); clear hb
  try clear x0 x1
  obtain ⟨x0, x1, _⟩ := H1.out.1
  go_wp2_with fail
  all_goals
    go_ret
    exact ⟨ret_int (by rw [HR.out]; try omega), H1.out.below⟩

set_option maxRecDepth 100000 in
theorem specFaces (ns ls : List Nd) (vn vl : Value) (w : World) (hn : Prs w vn ns) (hl : Prs w vl ls) :
    Calls Try.prog 37 #[.agg #[vn, vl]] w (IntIs (facesI ns ls) w) := by
  have HN := Lib.hid hn
  have HL := Lib.hid hl
  have hlen := hn.len
  obtain ⟨A, c, rfl⟩ := prs_form2 hn
  obtain ⟨A2, c2, rfl⟩ := prs_form2 hl
  clear hn hl
  have H0 := Lib.hid (held_pair w (.slice A ns.length c) (.slice A2 ls.length c2) 27)
  have HW := Lib.hid (fun w h1 h2 => specWin ns ls (.slice A ns.length c) (.slice A2 ls.length c2) w h1 h2)
  have HC := Lib.hid (fun w h1 h2 => specPartsC ns ls (.slice A ns.length c) (.slice A2 ls.length c2) w h1 h2)
  by_cases hw : winB ns ls = true
  · have HR := Lib.hid (show facesI ns ls = (ls.length : Int) - ns.length + 1 + partsI ns ls from if_pos hw)
    have h12 := ((winB_iff ns ls).1 hw).1.1.2
    have h20 := ((winB_iff ns ls).1 hw).1.2
    have hp : 0 ≤ partsI ns ls ∧ partsI ns ls ≤ 12 := by
      have := fltN_len (rootB ls) ns.length
      unfold partsI
      rw [if_pos hw]; omega
    rw [hw] at HW
    clear hw
    generalize facesI ns ls = r at *
    generalize partsI ns ls = f at *
    obtain ⟨x, hx⟩ : ∃ x : Int, (ls.length : Int) - ns.length = x := ⟨_, rfl⟩
    rw [hx] at HR
    have e1 : IntKind.i64.wrap ((ls.length : Int) - ns.length) = x := by rw [IntWalk.i64_in _ (by omega), hx]
    have e2 : IntKind.i64.wrap (x + 1) = x + 1 := IntWalk.i64_in _ (by omega)
    have e3 : IntKind.i64.wrap (x + 1 + f) = r := by rw [HR.out, IntWalk.i64_in _ (by omega)]
    clear hx hp h12 h20
    go_enter Try.func37, Try.ntmps37
    go_wp2_with fail
    refine (HW.out _ (HN.out.step H0.out.below) (HL.out.step H0.out.below)).mono ?_
    rintro e wH1 ⟨rfl, hb⟩
    have H1 := Lib.hid ((H0.out).step hb); clear hb
    try clear x0 x1
    obtain ⟨x0, x1, _⟩ := H1.out.1
    go_wp2_with fail
    refine regionD (S := fun W => Held _ W [(w.heap.size, 0, .slice A ns.length c), (w.heap.size, 1, .slice A2 ls.length c2)]) (by kernel_rfl) H1.out.drew ?_
    iterate 12 (refine takeT (v := ?_) rfl (by kernel_rfl) (by kernel_rfl) (by kernel_rfl) ?_ ?_; rotate_left; (first | (refine Or.inr ⟨by rfl, ?_⟩; with_reducible rfl) | (refine Or.inl ⟨by rfl, fun W hS => detRes_value (w' := W) ?_ hS⟩; obtain ⟨x0, x1, _⟩ := hS.1; go_simp; first | done | with_reducible rfl) | (refine Or.inl ⟨by rfl, fun W hS => ?_⟩; refine detRes_call (w' := W) (f := ?_) (args := ?_) ?_ ?_; rotate_left 2; (go_simp; (refine ⟨?_, ?_⟩ <;> with_reducible rfl)); (first | (with_reducible refine (HC.out _ (HN.out.step hS.below) (HL.out.step hS.below)).mono ?_) | fail); (first | (rintro e wn ⟨rfl, hb⟩; refine ⟨?_, hS.step hb⟩; with_reducible rfl) | (rintro e wn ⟨rfl, rfl⟩; refine ⟨?_, hS⟩; with_reducible rfl) | fail)) | fail); (simp only [Act.put, List.setIfInBounds_toArray, List.set_cons_zero, List.set_cons_succ]))
    refine doneD (by kernel_rfl) fun wH2 HS => ?_
    have H2 := Lib.hid HS; clear HS
    try clear x0 x1
    obtain ⟨x0, x1, _⟩ := H2.out.1
    go_wp2_with fail
    go_ret
    exact ⟨ret_int rfl, H2.out.below⟩
  · have HR := Lib.hid (show facesI ns ls = 0 from if_neg hw)
    rw [show winB ns ls = false by simpa using hw] at HW
    clear hw
    generalize facesI ns ls = r at *
    go_enter Try.func37, Try.ntmps37
    go_wp2_with fail
    refine (HW.out _ (HN.out.step H0.out.below) (HL.out.step H0.out.below)).mono ?_
    rintro e wH1 ⟨rfl, hb⟩
    have H1 := Lib.hid ((H0.out).step hb); clear hb
    try clear x0 x1
    obtain ⟨x0, x1, _⟩ := H1.out.1
    go_wp2_with fail
    go_ret
    exact ⟨ret_int (by rw [HR.out]), H1.out.below⟩

set_option maxRecDepth 100000 in
theorem specPanes (ns ls : List Nd) (vn vl : Value) (w : World) (hn : Prs w vn ns) (hl : Prs w vl ls) :
    Calls Try.prog 39 #[.agg #[vn, vl]] w (IntIs (panesI ns ls) w) := by
  have HN := Lib.hid hn
  have HL := Lib.hid hl
  have hlen := hn.len
  obtain ⟨A, c, rfl⟩ := prs_form2 hn
  obtain ⟨A2, c2, rfl⟩ := prs_form2 hl
  clear hn hl
  have H0 := Lib.hid (held_pair w (.slice A ns.length c) (.slice A2 ls.length c2) 27)
  have HC := Lib.hid (fun w h1 h2 => specFaces ns ls (.slice A ns.length c) (.slice A2 ls.length c2) w h1 h2)
  have hr : panesI ns ls = max 0 (facesI ns ls - 1) := rfl
  have hb := facesI_bound ns ls
  generalize panesI ns ls = r at *
  generalize facesI ns ls = f at *
  have HR := Lib.hid hr; clear hr
  go_enter Try.func39, Try.ntmps39
  go_wp2_with fail
  refine (HC.out _ (HN.out.step H0.out.below) (HL.out.step H0.out.below)).mono ?_
  rintro e wH1 ⟨rfl, hb⟩
  have H1 := Lib.hid ((H0.out).step hb); clear hb
  try clear x0 x1
  obtain ⟨x0, x1, _⟩ := H1.out.1
  go_wp2_with fail
  all_goals
    go_ret
    exact ⟨ret_int (by rw [HR.out]; try omega), H1.out.below⟩

set_option maxRecDepth 100000 in
theorem implForest (ns ls : List Nd) (vn vl : Value) (w : World) (hn : Prs w vn ns) (hl : Prs w vl ls) :
    Calls Try.prog 42 #[.agg #[vn, vl]] w (BoolIs (forestB ns ls) w) := by
  have HN := Lib.hid hn
  have HL := Lib.hid hl
  have hlen := hn.len
  obtain ⟨A, c, rfl⟩ := prs_form2 hn
  obtain ⟨A2, c2, rfl⟩ := prs_form2 hl
  clear hn hl
  have H0 := Lib.hid (held_pair w (.slice A ns.length c) (.slice A2 ls.length c2) 27)
  have HC := Lib.hid (fun w h1 h2 => implFaces ns ls (.slice A ns.length c) (.slice A2 ls.length c2) w h1 h2)
  have hr : forestB ns ls = (facesI ns ls == 1) := by unfold forestB; rw [Bool.eq_iff_iff]; simp
  generalize forestB ns ls = r at *
  generalize facesI ns ls = f at *
  have HR := Lib.hid hr; clear hr
  go_enter Try.func42, Try.ntmps42
  go_wp2_with fail
  refine (HC.out _ (HN.out.step H0.out.below) (HL.out.step H0.out.below)).mono ?_
  rintro e wH1 ⟨rfl, hb⟩
  have H1 := Lib.hid ((H0.out).step hb); clear hb
  try clear x0 x1
  obtain ⟨x0, x1, _⟩ := H1.out.1
  go_wp2_with fail
  go_ret
  exact ⟨ret_bool (by rw [HR.out]), H1.out.below⟩

set_option maxRecDepth 100000 in
theorem specForest (ns ls : List Nd) (vn vl : Value) (w : World) (hn : Prs w vn ns) (hl : Prs w vl ls) :
    Calls Try.prog 41 #[.agg #[vn, vl]] w (BoolIs (forestB ns ls) w) := by
  have HN := Lib.hid hn
  have HL := Lib.hid hl
  have hlen := hn.len
  obtain ⟨A, c, rfl⟩ := prs_form2 hn
  obtain ⟨A2, c2, rfl⟩ := prs_form2 hl
  clear hn hl
  have H0 := Lib.hid (held_pair w (.slice A ns.length c) (.slice A2 ls.length c2) 27)
  have HW := Lib.hid (fun w h1 h2 => specWin ns ls (.slice A ns.length c) (.slice A2 ls.length c2) w h1 h2)
  have HC := Lib.hid (fun w h1 h2 => specFaces ns ls (.slice A ns.length c) (.slice A2 ls.length c2) w h1 h2)
  have hr : forestB ns ls = (facesI ns ls == 1) := by unfold forestB; rw [Bool.eq_iff_iff]; simp
  have HF := Lib.hid (show winB ns ls = false → forestB ns ls = false from fun h => by unfold forestB facesI; rw [h]; simp)
  generalize forestB ns ls = r at *
  generalize facesI ns ls = f at *
  generalize winB ns ls = d at *
  have HR := Lib.hid hr; clear hr
  cases d
  · go_enter Try.func41, Try.ntmps41
    go_wp2_with fail
    refine (HW.out _ (HN.out.step H0.out.below) (HL.out.step H0.out.below)).mono ?_
    rintro e wH1 ⟨rfl, hb⟩
    have H1 := Lib.hid ((H0.out).step hb); clear hb
    try clear x0 x1
    obtain ⟨x0, x1, _⟩ := H1.out.1
    go_wp2_with fail
    go_ret
    exact ⟨ret_bool (by rw [HF.out (by trivial)]), H1.out.below⟩
  · go_enter Try.func41, Try.ntmps41
    go_wp2_with fail
    refine (HW.out _ (HN.out.step H0.out.below) (HL.out.step H0.out.below)).mono ?_
    rintro e wH1 ⟨rfl, hb⟩
    have H1 := Lib.hid ((H0.out).step hb); clear hb
    try clear x0 x1
    obtain ⟨x0, x1, _⟩ := H1.out.1
    go_wp2_with fail
    refine (HC.out _ (HN.out.step H1.out.below) (HL.out.step H1.out.below)).mono ?_
    rintro e wH2 ⟨rfl, hb⟩
    have H2 := Lib.hid ((H1.out).step hb); clear hb
    try clear x0 x1
    obtain ⟨x0, x1, _⟩ := H2.out.1
    go_wp2_with fail
    go_ret
    exact ⟨ret_bool (by rw [HR.out]), H2.out.below⟩
end Go.Proofs.Ytkkjcdilpbofmab
