/-
  A deposit is taken back, of the program and of the model.
-/
import Derived.Test.YtfckgidilbjokacCol
import Derived.Test.YtfckgidilbjokacDep
import Derived.Test.YtfckgidilbjokacTrD
namespace Go.Proofs.Ytfckgidilbjokac
open Go.RowKit
set_option linter.unusedVariables false
set_option linter.unusedSimpArgs false

def remT (p : Int) (xs : List Tr) : List Tr := xs.filter fun t => t.x != p
def takRest (xs : List Tr) (p : Int) : List Tr := remT p xs
noncomputable def takB (xs : List Tr) (p : Int) : Bool := depsB xs && !decide ((remT p xs).length = xs.length)
noncomputable def takT (xs : List Tr) (p : Int) : List Tr := if takB xs p = true then remT p xs else xs
theorem remT_take (p : Int) {xs : List Tr} {k : Nat} (h : k < xs.length) : remT p (xs.take (k + 1)) = if (atT xs k).x = p then remT p (xs.take k) else remT p (xs.take k) ++ [atT xs k] := by
  unfold remT
  rw [takeTr h, List.filter_append]
  split
  · rename_i e; simp [e]
  · rename_i e; simp [e]
theorem remT_len (p : Int) (xs : List Tr) : (remT p xs).length ≤ xs.length := List.length_filter_le _ _
theorem remT_none {p : Int} {xs : List Tr} (h : ∀ k, k < xs.length → (atT xs k).x ≠ p) : remT p xs = xs := by
  unfold remT
  refine List.filter_eq_self.2 fun t ht => ?_
  obtain ⟨k, hk, rfl⟩ := List.getElem_of_mem ht
  have := h k hk
  rw [atT_get hk]
  simpa using this
theorem remT_one {p : Int} {xs : List Tr} {k : Nat} (hk : k < xs.length) (he : (atT xs k).x = p) (hd : DepNew xs xs.length) : remT p xs = dropT xs k := by
  have e : xs = xs.take k ++ [atT xs k] ++ xs.drop (k + 1) := by rw [← takeTr hk, List.take_append_drop]
  have h1 : (xs.take k).filter (fun t => t.x != p) = xs.take k := by
    refine List.filter_eq_self.2 fun t ht => ?_
    obtain ⟨i, hi, rfl⟩ := List.getElem_of_mem ht
    have hi2 : i < k := by simp at hi; omega
    rw [List.getElem_take, atT_get (by omega)]
    have := hd i k hi2 hk
    rw [he] at this
    simpa using this
  have h2 : (xs.drop (k + 1)).filter (fun t => t.x != p) = xs.drop (k + 1) := by
    refine List.filter_eq_self.2 fun t ht => ?_
    obtain ⟨i, hi, rfl⟩ := List.getElem_of_mem ht
    have hi2 : k + 1 + i < xs.length := by simp at hi; omega
    rw [List.getElem_drop, atT_get hi2]
    have := hd k (k + 1 + i) (by omega) hi2
    rw [he] at this
    simpa using fun h => this h.symm
  unfold remT dropT
  conv => lhs; rw [e]
  rw [List.filter_append, List.filter_append, h1, h2]
  simp [he]
theorem dropT_len {xs : List Tr} {k : Nat} (hk : k < xs.length) : (dropT xs k).length = xs.length - 1 := by unfold dropT; simp; omega

theorem implAt (x y z p : Int) (bp : Nat) (w : World) (h : w.cell? ⟨bp, 0, none⟩ = some (.int .i64 p)) (hb : bp < w.heap.size) :
    Calls Try.prog 104 #[.agg #[.int .i64 x, .int .i64 y, .int .i64 z], .pointer (some ⟨bp, 0, none⟩)] w (BoolIs (x == p) w) := by
  have H0 := Lib.hid (((Held.none_ w).withCell hb h).new2 w.heap.size rfl [.int .i64 x, .int .i64 y, .int .i64 z] 80)
  simp only [newFs, List.cons_append, List.nil_append, List.append_nil] at H0
  clear h
  obtain ⟨x0, x1, x2, x3, _⟩ := H0.out.1
  by_cases hx : x = p
  · have g : (x == p) = true := by simpa using hx
    have g2 : decide (x = p) = true := by simpa using hx
    have HX := Lib.hid hx; clear hx
    go_enter Try.func104, Try.ntmps104
    go_wp2_with fail
    go_ret
    exact ⟨ret_bool (by simp [HX.out]), H0.out.below⟩
  · have g : (x == p) = false := by simpa using hx
    have g2 : decide (x = p) = false := by simpa using hx
    have HX := Lib.hid hx; clear hx
    go_enter Try.func104, Try.ntmps104
    go_wp2_with fail
    go_ret
    exact ⟨ret_bool (by simp [HX.out]), H0.out.below⟩

/-- Where the place p is, or that it is nowhere. -/
def IdxIs (xs : List Tr) (p : Int) (w : World) (e : Ending) (w' : World) : Prop :=
  ∃ i : Int, e = .returned (.int .i64 i) ∧ ((i = -1 ∧ ∀ k, k < xs.length → (atT xs k).x ≠ p) ∨ ∃ k : Nat, i = k ∧ k < xs.length ∧ (atT xs k).x = p) ∧ Below w.heap.size w w'
set_option maxRecDepth 100000 in
theorem implIdx (xs : List Tr) (v : Value) (p : Int) (bp : Nat) (w : World) (hv : Trs w v xs) (h : w.cell? ⟨bp, 0, none⟩ = some (.int .i64 p)) (hb : bp < w.heap.size) :
    Calls Try.prog 103 #[v, .func (.func 104) #[] #[.pointer (some ⟨bp, 0, none⟩)]] w (IdxIs xs p w) := by
  have HV := Lib.hid hv
  have hlen := hv.len
  obtain ⟨A, c, rfl⟩ := hv.form2
  have H0 := Lib.hid ((Held.none_ w).withCell hb h)
  clear hv h hb
  go_enter Try.func103, Try.ntmps103
  go_wp2_with fail
  go_loopw [8] (fun i wr => ∃ m : Nat, m ≤ xs.length ∧ i = .int .i64 m ∧ (∀ j, j < m → (atT xs j).x ≠ p) ∧ Held w wr [(bp, 0, .int .i64 p)]) (fun i _ => xs.length - (intOf i).toNat)
  case atStart => exact ⟨0, Nat.zero_le _, rfl, fun j hj => by omega, H0.out⟩
  case round =>
    clear H0
    obtain ⟨m, hm, rfl, hz, hh⟩ := hrel
    have HZ := Lib.hid hz; clear hz
    have H1 := Lib.hid hh; clear hh
    by_cases hlt : m < xs.length
    · obtain ⟨_, _, he, _, _, hcs⟩ := (HV.out.step H1.out.below).form
      injection he with he1 he2 he3
      obtain ⟨b, o, hA, hbl, hc0, hc1, hc2⟩ := hcs m hlt
      rw [← he1] at hA
      subst hA
      clear he1 he2 he3 hcs
      have HC := Lib.hid (implAt (atT xs m).x (atT xs m).y (atT xs m).z p bp wr H1.out.1.1 H1.out.2.1.1)
      have HNX := Lib.hid (fun (h : (atT xs m).x ≠ p) => (fun j (hj : j < m + 1) => (if e : j = m then e ▸ h else HZ.out j (by omega)) : ∀ j, j < m + 1 → (atT xs j).x ≠ p))
      have HYE := Lib.hid (fun (h : (atT xs m).x = p) => (show ∃ k : Nat, (m : Int) = k ∧ k < xs.length ∧ (atT xs k).x = p from ⟨m, rfl, hlt, h⟩))
      generalize atT xs m = t at *
      obtain ⟨x, y, z⟩ := t
      simp only at hc0 hc1 hc2 HC HNX HYE
      have q1 : (0 : Int) ≤ m := by omega
      have q2 : (m : Int) < (xs.length : Int) := by omega
      by_cases hx : x = p
      · have HP := Lib.hid (HYE.out hx)
        rw [show (x == p) = true by simpa using hx] at HC
        clear hx HYE HNX
        go_wp2_with fail
        refine HC.out.mono ?_
        rintro e w2 ⟨rfl, hb⟩
        have H2 := Lib.hid (H1.out.step hb); clear hb
        go_wp2_with fail
        go_ret
        exact ⟨_, rfl, .inr HP.out, H2.out.below⟩
      · have HP := Lib.hid (HNX.out hx)
        rw [show (x == p) = false by simpa using hx] at HC
        clear hx HYE HNX
        go_wp2_with fail
        refine HC.out.mono ?_
        rintro e w2 ⟨rfl, hb⟩
        have H2 := Lib.hid (H1.out.step hb); clear hb
        go_wp2_with fail
        exact ⟨⟨m + 1, by omega, by go_num, HP.out, H2.out⟩, by simp [intOf]; omega⟩
    · obtain rfl : m = xs.length := by omega
      go_wp2_with fail
      go_ret
      exact ⟨-1, rfl, .inl ⟨rfl, HZ.out⟩, H1.out.below⟩

set_option maxRecDepth 100000 in
set_option maxHeartbeats 1000000 in
theorem implTake (xs : List Tr) (v : Value) (p : Int) (w : World) (hv : Trs w v xs) (hlen : xs.length ≤ 1048576) :
    Calls Try.prog 56 #[v, .int .i64 p] w (TpsOk 80 (takT xs p) (takB xs p) w) := by
  have HV := Lib.hid hv
  obtain ⟨A, c, rfl⟩ := hv.form2
  clear hv
  have HC := Lib.hid (fun w h => cloneDeposits xs (.slice A xs.length c) w h hlen)
  unfold TpsNew at HC
  have HX := Lib.hid (fun bp w h1 h2 h3 => implIdx xs (.slice A xs.length c) p bp w h1 h2 h3)
  unfold IdxIs at HX
  have HD := Lib.hid (fun w h => implDeposits xs (.slice A xs.length c) w h)
  have HT := Lib.hid (show takT xs p = if takB xs p = true then remT p xs else xs from rfl)
  have HB := Lib.hid (show takB xs p = (depsB xs && !decide ((remT p xs).length = xs.length)) from rfl)
  have HOK := Lib.hid (fun h => ((depsB_iff xs).1 h).2.2)
  generalize takT xs p = res at *
  generalize takB xs p = ok at *
  have H0 := Lib.hid ((Held.none_ w).new2 w.heap.size rfl [.int .i64 p] 3)
  simp only [newFs, List.cons_append, List.nil_append, List.append_nil] at H0
  go_enter Try.func56, Try.ntmps56
  go_wp2_with fail
  refine (HC.out _ (HV.out.step H0.out.below)).mono ?_
  rintro e w1 ⟨vr, rfl, hm, hb⟩
  have H1 := Lib.hid (H0.out.step hb)
  have M1 := Lib.hid (hm.mono (b' := w.heap.size) (by simp)); clear hm hb
  go_wp2_with fail
  refine (HX.out _ _ (HV.out.step H1.out.below) H1.out.1.1 H1.out.2.1.1).mono ?_
  rintro e w2 ⟨i, rfl, hi, hb⟩
  have H2 := Lib.hid (H1.out.step hb)
  have M2 := Lib.hid (M1.out.step hb); clear hb HX HC M1
  rcases hi with ⟨rfl, hno⟩ | ⟨k, rfl, hk, hat⟩
  · have HR := Lib.hid (remT_none hno); clear hno
    go_wp2_with fail
    go_ret2
    have hok : ok = false := by rw [HB.out, HR.out]; simp
    refine ⟨_, by rw [hok]; rfl, ?_, H2.out.below⟩
    rw [HT.out, if_neg (by rw [hok]; simp)]
    exact M2.out
  · have HAT := Lib.hid hat; clear hat
    have HR := Lib.hid (fun (h : depsB xs = true) => remT_one hk HAT.out (HOK.out h))
    generalize depsB xs = d at *
    have q1 : (0 : Int) ≤ (k : Int) := by omega
    cases d
    · go_wp2_with fail
      all_goals first | (exfalso; omega) | skip
      refine (HD.out _ (HV.out.step H2.out.below)).mono ?_
      rintro e w3 ⟨rfl, hb⟩
      have H3 := Lib.hid (H2.out.step hb)
      have M3 := Lib.hid (M2.out.step hb); clear hb
      go_wp2_with fail
      go_ret2
      have hok : ok = false := by rw [HB.out]; simp
      refine ⟨_, by rw [hok]; rfl, ?_, H3.out.below⟩
      rw [HT.out, if_neg (by rw [hok]; simp)]
      exact M3.out
    · replace HR := Lib.hid (HR.out rfl)
      obtain ⟨g, cap, rfl⟩ := M2.out.some_ (by omega)
      go_wp2_with fail
      all_goals first | (exfalso; omega) | skip
      refine (HD.out _ (HV.out.step H2.out.below)).mono ?_
      rintro e w3 ⟨rfl, hb⟩
      have H3 := Lib.hid (H2.out.step hb)
      have M3 := Lib.hid (M2.out.step hb); clear hb
      have HDL := Lib.hid (deleteDeposit k M3.out hk hlen)
      have q2 : (k : Int) < 1048576 := by omega
      go_wp2_with fail
      refine HDL.out.mono ?_
      rintro e w4 ⟨rfl, hm, hg⟩
      have HB4 := Lib.hid (H3.out.below.grown hg H3.out.below.size (fun j hj => (M3.out.own j hj).1))
      have M4 := Lib.hid hm; clear hm hg
      go_wp2_with fail
      go_ret2
      have hok : ok = true := by rw [HB.out, HR.out, dropT_len hk]; simp; omega
      refine ⟨_, by rw [hok]; rfl, ?_, HB4.out⟩
      rw [HT.out, if_pos hok, HR.out]
      exact M4.out

set_option maxRecDepth 100000 in
set_option maxHeartbeats 1000000 in
theorem specTake (xs : List Tr) (v : Value) (p : Int) (w : World) (hv : Trs w v xs) (hlen : xs.length ≤ 1048576) :
    Calls Try.prog 55 #[v, .int .i64 p] w (TpsOk 80 (takT xs p) (takB xs p) w) := by
  obtain ⟨i0, hi, hz0, hz1, hz2⟩ := info_parts infoDeposit
  have HA := Lib.hid (fun w2 v2 (h : Trs w2 v2 xs) (g : Nat) (hg : w2.heap[g]? = some (.cells #[] 80 (0, 0))) (hB : w.heap.size ≤ g) => run_append_emptyT (P := Try.prog) (ty := 72) Try.underlying72 hi hz0 hz1 hz2 rfl hg hB h hlen)
  have HI := Lib.hid (And.intro hi (And.intro hz0 (And.intro hz1 hz2))); clear hi hz0 hz1 hz2
  have HV := Lib.hid hv
  obtain ⟨A, c, rfl⟩ := hv.form2
  clear hv
  have HD := Lib.hid (fun w h => specDeposits xs (.slice A xs.length c) w h)
  have HT := Lib.hid (show takT xs p = if takB xs p = true then remT p xs else xs from rfl)
  have HOB := Lib.hid (show takB xs p = (depsB xs && !decide ((remT p xs).length = xs.length)) from rfl)
  generalize takT xs p = res at *
  generalize takB xs p = ok at *
  generalize depsB xs = d at *
  go_enter Try.func55, Try.ntmps55
  go_wp2_with fail
  go_loopw [6, 7] (fun v i wr => ∃ m : Nat, m ≤ xs.length ∧ i = .int .i64 m ∧ Tps wr w.heap.size 80 v (remT p (xs.take m)) ∧ Below w.heap.size w wr) (fun _ i _ => xs.length - (intOf i).toNat)
  case atStart => exact ⟨0, Nat.zero_le _, rfl, Tps.made _ _ _ _ rfl (Nat.le_refl _), (Below.refl _ _).alloc (Nat.le_refl _) _⟩
  case round =>
    obtain ⟨m, hm, rfl, hown, hb⟩ := hrel
    have HOWN := Lib.hid hown; clear hown
    have HB := Lib.hid hb; clear hb
    by_cases hlt : m < xs.length
    · obtain ⟨_, _, he, _, _, hcs⟩ := (HV.out.step HB.out).form
      injection he with he1 he2 he3
      obtain ⟨b, o, hA, hbl, hc0, hc1, hc2⟩ := hcs m hlt
      rw [← he1] at hA
      subst hA
      clear he1 he2 he3 hcs
      have HTK := Lib.hid (remT_take p hlt)
      have hll : (remT p (xs.take m)).length ≤ m := by have := remT_len p (xs.take m); rw [List.length_take] at this; omega
      generalize atT xs m = t at *
      obtain ⟨x, y, z⟩ := t
      simp only at hc0 hc1 hc2 HTK
      have q1 : (0 : Int) ≤ m := by omega
      have q2 : (m : Int) < (xs.length : Int) := by omega
      by_cases hx : x = p
      · have HTX := Lib.hid (HTK.out.trans (if_pos hx))
        have g : (x != p) = false := by simpa using hx
        clear hx HTK
        go_wp2_with fail
        exact ⟨⟨m + 1, by omega, by go_num, by rw [HTX.out]; exact HOWN.out, HB.out⟩, by simp [intOf]; omega⟩
      · have HTX := Lib.hid (HTK.out.trans (if_neg hx))
        have g : (x != p) = true := by simpa using hx
        clear hx HTK
        obtain ⟨hi, hz0, hz1', hz2'⟩ := HI.out
        have hsz := HB.out.size
        have HT1 := Lib.hid (heldT1 wr ⟨x, y, z⟩ 80)
        obtain ⟨x0, x1, x2, _⟩ := HT1.out.1
        go_wp2_with (at_builtin; refine wpList_append_own _ rfl _ _ 72 rfl w.heap.size 80 i0 (.agg #[.int .i64 0, .int .i64 0, .int .i64 0]) 3 24 Try.underlying72 hi hz0 hz1' hz2' rfl (by decide) _ _ _ rfl (World.ownsRow.alloc HOWN.out _) ⟨wr.heap.size, 0, none⟩ 1 1 [.int .i64 x, .int .i64 y, .int .i64 z] rfl rfl ?c1 ?c2 ?c3 ?c4 ?c5 ?_)
        try (case c1 => exact tri_news x0 x1 x2)
        case c2 => simp [Value.oneCell']
        case c3 => unfold maxLen; omega
        case c4 => omega
        case c5 => first | (simp; omega) | omega
        intro v' w5 hown hgrow _
        have HB2 := Lib.hid (HB.out.trans (grown_belowT HOWN.out hsz hgrow))
        have HO2 := Lib.hid (Tps.more (xs := remT p (xs.take m)) (u := ⟨x, y, z⟩) hown); clear hown hgrow
        clear x0 x1 x2
        go_wp2_with fail
        exact ⟨⟨m + 1, by omega, by go_num, by rw [HTX.out]; exact HO2.out, HB2.out⟩, by simp [intOf]; omega⟩
    · obtain rfl : m = xs.length := by omega
      rw [List.take_length] at HOWN
      have hsz := HB.out.size
      obtain ⟨a, cap, rfl, _, _, _⟩ := HOWN.out.form
      have hrl := remT_len p xs
      cases d
      · go_wp2_with fail
        refine (HD.out _ (HV.out.step HB.out)).mono ?_
        rintro e w1 ⟨rfl, hb1⟩
        have HB1 := Lib.hid (HB.out.trans (hb1.mono hsz)); clear hb1
        obtain ⟨v', w', hr, ho, hb⟩ := HA.out (w1.alloc (.cells #[] 80)) _ (HV.out.step (HB1.out.alloc HB1.out.size _)) w1.heap.size (heap_alloc_new w1 _) HB1.out.size
        have HO5 := Lib.hid ho
        have HB5 := Lib.hid ((HB1.out.alloc HB1.out.size (.cells #[] 80)).trans (hb.mono (by simp; exact Nat.le_succ_of_le HB1.out.size)))
        clear ho hb
        go_wp2_with (at_builtin; refine wpList_append_run rfl _ _ 72 rfl v' w' hr ?_)
        go_wp2_with fail
        go_ret2
        have hok : ok = false := by rw [HOB.out]; simp
        refine ⟨_, by rw [hok]; rfl, ?_, HB5.out⟩
        rw [HT.out, if_neg (by rw [hok]; simp)]
        exact HO5.out
      · by_cases hq : (remT p xs).length = xs.length
        · have HQ := Lib.hid hq
          have hq2 : ((remT p xs).length : Int) = (xs.length : Int) := by omega
          clear hq
          go_wp2_with fail
          refine (HD.out _ (HV.out.step HB.out)).mono ?_
          rintro e w1 ⟨rfl, hb1⟩
          have HB1 := Lib.hid (HB.out.trans (hb1.mono hsz)); clear hb1
          obtain ⟨v', w', hr, ho, hb⟩ := HA.out (w1.alloc (.cells #[] 80)) _ (HV.out.step (HB1.out.alloc HB1.out.size _)) w1.heap.size (heap_alloc_new w1 _) HB1.out.size
          have HO5 := Lib.hid ho
          have HB5 := Lib.hid ((HB1.out.alloc HB1.out.size (.cells #[] 80)).trans (hb.mono (by simp; exact Nat.le_succ_of_le HB1.out.size)))
          clear ho hb
          go_wp2_with (at_builtin; refine wpList_append_run rfl _ _ 72 rfl v' w' hr ?_)
          go_wp2_with fail
          go_ret2
          have hok : ok = false := by rw [HOB.out, HQ.out]; simp
          refine ⟨_, by rw [hok]; rfl, ?_, HB5.out⟩
          rw [HT.out, if_neg (by rw [hok]; simp)]
          exact HO5.out
        · have HQ := Lib.hid hq
          have hq2 : ¬ ((remT p xs).length : Int) = (xs.length : Int) := by omega
          clear hq
          go_wp2_with fail
          refine (HD.out _ (HV.out.step HB.out)).mono ?_
          rintro e w1 ⟨rfl, hb1⟩
          have HB1 := Lib.hid (HB.out.trans (hb1.mono hsz))
          have HO1 := Lib.hid (HOWN.out.step hb1); clear hb1
          go_wp2_with fail
          go_ret2
          have hok : ok = true := by rw [HOB.out]; simp [HQ.out]
          refine ⟨_, by rw [hok]; rfl, ?_, HB1.out⟩
          rw [HT.out, if_pos hok]
          exact HO1.out
end Go.Proofs.Ytfckgidilbjokac
