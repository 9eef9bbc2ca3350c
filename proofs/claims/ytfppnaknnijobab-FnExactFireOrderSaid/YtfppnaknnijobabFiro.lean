/-
  FireOrder, of the program and of the model.
-/
import Derived.Test.YtfppnaknnijobabFire
import Derived.Test.YtfppnaknnijobabSortG
namespace Go.Proofs.Ytfppnaknnijobab
open Go.RowKit
set_option linter.unusedVariables false
set_option linter.unusedSimpArgs false

def idxF (n : Nat) : List Int := (List.range n).map fun (k : Nat) => ((k : Nat) : Int)
theorem idxF_succ (n : Nat) : idxF (n + 1) = idxF n ++ [(n : Int)] := by simp [idxF, List.range_succ]
theorem idxF_len (n : Nat) : (idxF n).length = n := by simp [idxF]
theorem idxF_mem {n : Nat} {x : Int} (h : x ∈ idxF n) : ∃ k : Nat, x = k ∧ k < n := by
  unfold idxF at h
  rw [List.mem_map] at h
  obtain ⟨k, hk, rfl⟩ := h
  exact ⟨k, rfl, by simpa using hk⟩
def ltF (xs : List Tr) (x y : Int) : Bool := decide (fcmp xs x y < 0)
def fireL (xs : List Tr) : List Int := if okF xs = true then sortL (ltF xs) (idxF xs.length) else []
theorem okF_ten {xs : List Tr} (h : okF xs = true) : xs.length ≤ 10 := by
  unfold okF at h
  rw [Bool.and_eq_true, decide_eq_true_iff] at h
  exact h.1
theorem fireL_len (xs : List Tr) : (fireL xs).length ≤ 10 := by
  unfold fireL
  split
  · rename_i h
    rw [sortL_len _ _ _ (idxF_len _)]
    exact okF_ten h
  · exact Nat.zero_le _
/-- Against an elder place: does the later one go ahead of it? -/
theorem ltF_iff (xs : List Tr) {k d : Nat} (h : d < k) : ltF xs k d = true ↔ (atT xs d).x < (atT xs k).x ∨ (atT xs d).x = (atT xs k).x ∧ (atT xs k).y < (atT xs d).y := by
  unfold ltF fcmp orI cmpI
  rw [decide_eq_true_iff]
  simp only [Int.toNat_natCast]
  split <;> split <;> (try split) <;> (try split) <;> (try split) <;> (try split) <;> omega

set_option maxRecDepth 100000 in
theorem idxFunc (xs : List Tr) (v : Value) (w : World) (hv : Trs w v xs) :
    Calls Try.prog 127 #[v, .func (.func 119) #[] #[]] w (fun e w' => ∃ i : Int, e = .returned (.int .i64 i) ∧ (0 ≤ i ↔ ¬ xs.all fireB = true) ∧ Below w.heap.size w w') := by
  have hlen := hv.len
  have HV := Lib.hid hv
  obtain ⟨A, c, rfl⟩ := hv.form2
  clear hv
  have HF := Lib.hid (fun f w => notOk1 f w)
  unfold BoolIs at HF
  have HYA := Lib.hid (fun h => (allF_iff xs).2 h)
  have HNA := Lib.hid (fun k (hk : k < xs.length) (h : fireB (atT xs k) = false) => (show xs.all fireB = false from by
    cases hh : xs.all fireB
    · rfl
    · have := (allF_iff xs).1 hh k hk
      rw [h] at this; cases this))
  generalize xs.all fireB = al at *
  go_enter Try.func127, Try.ntmps127
  go_wp2_with fail
  go_loopw [8] (fun i wr => ∃ m : Nat, m ≤ xs.length ∧ i = .int .i64 m ∧ (∀ j, j < m → fireB (atT xs j) = true) ∧ Held w wr []) (fun i _ => xs.length - (intOf i).toNat)
  case atStart => exact ⟨0, Nat.zero_le _, rfl, fun j hj => by omega, Held.none_ w⟩
  case round =>
    obtain ⟨m, hm, rfl, ha, hh⟩ := hrel
    have HA := Lib.hid ha; clear ha
    have H1 := Lib.hid hh; clear hh
    by_cases hlt : m < xs.length
    · obtain ⟨A6', c6', e6, -, -, hcs⟩ := (HV.out.step H1.out.below).form
      simp only [Value.slice.injEq] at e6
      obtain ⟨rfl, -, -⟩ := e6
      obtain ⟨bb, oo, rfl, -, p0, p1, p2⟩ := hcs m hlt
      clear hcs
      have q1 : (0 : Int) ≤ m := by omega
      have q2 : (m : Int) < (xs.length : Int) := by omega
      have HNX := Lib.hid (fun (h : fireB (atT xs m) = true) => (fun j (hj : j < m + 1) => (if e : j = m then e ▸ h else HA.out j (by omega)) : ∀ j, j < m + 1 → fireB (atT xs j) = true))
      have HNO := Lib.hid (fun (h : fireB (atT xs m) = false) => HNA.out m hlt h)
      have HFM := Lib.hid (HF.out (atT xs m))
      generalize fireB (atT xs m) = d at *
      generalize atT xs m = f at *
      obtain ⟨fx, fy, fz⟩ := f
      unfold Tr.val at HFM
      simp only at HFM p0 p1 p2
      cases d
      · have HAL := Lib.hid (HNO.out (by trivial))
        go_wp2_with fail
        refine (HFM.out _).mono ?_
        rintro e wH2 ⟨rfl, hb⟩
        have H2 := Lib.hid ((H1.out).step hb); clear hb
        go_wp2_with fail
        go_ret
        exact ⟨_, rfl, by rw [HAL.out]; simp, H2.out.below⟩
      · go_wp2_with fail
        refine (HFM.out _).mono ?_
        rintro e wH2 ⟨rfl, hb⟩
        have H2 := Lib.hid ((H1.out).step hb); clear hb
        go_wp2_with fail
        exact ⟨⟨m + 1, by omega, by go_num, HNX.out (by trivial), H2.out⟩, by simp [intOf]; omega⟩
    · obtain rfl : m = xs.length := by omega
      have HAL := Lib.hid (HYA.out HA.out)
      go_wp2_with fail
      go_ret
      exact ⟨_, rfl, by rw [HAL.out]; simp, H1.out.below⟩
set_option maxRecDepth 100000 in
theorem contFunc (xs : List Tr) (v : Value) (w : World) (hv : Trs w v xs) :
    Calls Try.prog 118 #[v, .func (.func 119) #[] #[]] w (BoolIs (!xs.all fireB) w) := by
  have HX := Lib.hid (idxFunc xs v w hv)
  clear hv
  generalize xs.all fireB = al at *
  go_enter Try.func118, Try.ntmps118
  go_wp2_with fail
  refine HX.out.mono ?_
  rintro e w1 ⟨i, rfl, hi, hb⟩
  have HB := Lib.hid hb; clear hb
  have HI := Lib.hid hi; clear hi
  go_wp2_with fail
  go_ret
  refine ⟨ret_bool ?_, HB.out⟩
  have := HI.out
  cases al
  · simpa using this
  · simpa using this
set_option maxRecDepth 100000 in
theorem implOkF (xs : List Tr) (v : Value) (w : World) (hv : Trs w v xs) : Calls Try.prog 100 #[v] w (BoolIs (okF xs) w) := by
  have hlen := hv.len
  have HC := Lib.hid (contFunc xs v w hv)
  unfold BoolIs at HC
  obtain ⟨A, c, rfl⟩ := hv.form2
  clear hv
  have HR := Lib.hid (show okF xs = (decide (xs.length ≤ 10) && xs.all fireB) from rfl)
  have H0 := Lib.hid (Held.none_ w)
  generalize okF xs = r at *
  generalize xs.all fireB = al at *
  by_cases h10 : xs.length ≤ 10
  · have h10i : (xs.length : Int) ≤ 10 := by omega
    have HT := Lib.hid (show r = al from by rw [HR.out, decide_eq_true h10, Bool.true_and])
    go_enter Try.func100, Try.ntmps100
    go_wp2_with fail
    refine (HC.out).mono ?_
    rintro e wH1 ⟨rfl, hb⟩
    have H1 := Lib.hid ((H0.out).step hb); clear hb
    go_wp2_with fail
    go_ret
    exact ⟨ret_bool (by rw [HT.out] <;> (first | rfl | (cases al <;> rfl) | simp)), H1.out.below⟩
  · have h10i : ¬ (xs.length : Int) ≤ 10 := by omega
    have HT := Lib.hid (show r = false from by rw [HR.out, decide_eq_false h10]; rfl)
    go_enter Try.func100, Try.ntmps100
    go_wp2_with fail
    go_ret
    exact ⟨ret_bool (by rw [HT.out] <;> (first | rfl | (simp; omega))), H0.out.below⟩

set_option maxRecDepth 100000 in
set_option maxHeartbeats 1000000 in
theorem implFireOrder (xs : List Tr) (v : Value) (w : World) (hv : Trs w v xs) : Calls Try.prog 62 #[v] w (IntsNew (fireL xs) w) := by
  have hlen := hv.len
  have HV := Lib.hid hv
  have HO := Lib.hid (fun w h => implOkF xs v w h)
  unfold BoolIs at HO
  obtain ⟨A, c, rfl⟩ := hv.form2
  clear hv
  have H0 := Lib.hid ((Held.none_ w).new2 w.heap.size rfl [.slice A xs.length c] 94)
  simp only [newFs, List.cons_append, List.nil_append, List.append_nil] at H0
  have hmf : ∀ (fn : Fn) (first cap : Array Value) (w : World), (Instr.makeFunc fn first cap).run Try.prog w = .ok (.func fn first cap) w := fun _ _ _ _ => rfl
  cases ho : okF xs
  · rw [ho] at HO
    have HR := Lib.hid (show fireL xs = [] from by unfold fireL; rw [ho]; rfl)
    generalize fireL xs = R at *
    go_enter Try.func62, Try.ntmps62
    obtain ⟨x0, _⟩ := H0.out.1
    go_wp2_with fail
    refine (HO.out _ (HV.out.step H0.out.below)).mono ?_
    rintro e wH1 ⟨rfl, hb⟩
    have H1 := Lib.hid ((H0.out).step hb); clear hb
    try clear x0
    obtain ⟨x0, _⟩ := H1.out.1
    go_wp2_with fail
    go_ret
    exact ⟨_, rfl, by rw [HR.out]; exact Ints.nil _ _, H1.out.below⟩
  · rw [ho] at HO
    have h10 := okF_ten ho
    have HR := Lib.hid (show fireL xs = sortL (fun x y => decide (fcmp xs x y < 0)) (idxF xs.length) from by unfold fireL; rw [ho]; rfl)
    have HU := Lib.hid idxF_succ
    have HLN := Lib.hid idxF_len
    have HZ := Lib.hid (show idxF 0 = [] from rfl)
    have HSO := Lib.hid (fun (W : World) (g cp : Nat) (hB : w.heap.size ≤ w.heap.size + 1) (hH : Held w W [(w.heap.size, 0, .slice A xs.length c)]) (hI : Ints W (w.heap.size + 1) (.slice (some ⟨g, 0, none⟩) (idxF xs.length).length cp) (idxF xs.length)) =>
      sortFunc (w0 := w) (B := w.heap.size + 1) (g := g) (cp := cp) (fs := [(w.heap.size, 0, .slice A xs.length c)]) (.pointer (some ⟨w.heap.size, 0, none⟩)) (fcmp xs) (idxF xs.length) W hB ⟨Nat.lt_succ_self _, trivial⟩ hH hI (by rw [idxF_len]; omega)
        (fun W' x y hx hy hh => by
          obtain ⟨i, rfl, hi⟩ := idxF_mem hx
          obtain ⟨j, rfl, hj⟩ := idxF_mem hy
          exact fireCmp xs (.slice A xs.length c) w.heap.size i j W' hh.1.1 hh.2.1.1 (HV.out.step hh.below) hi hj))
    rw [← HR.out] at HSO
    generalize fireL xs = R at *
    generalize idxF = X at *
    obtain ⟨i0, hi, hz0, hz1, hz2⟩ := info_parts infoInt
    have HF := Lib.hid (And.intro hi (And.intro hz0 (And.intro hz1 hz2))); clear hi hz0 hz1 hz2
    clear ho
    go_enter Try.func62, Try.ntmps62
    obtain ⟨x0, _⟩ := H0.out.1
    go_wp2_with fail
    refine (HO.out _ (HV.out.step H0.out.below)).mono ?_
    rintro e wH1 ⟨rfl, hb⟩
    have H1 := Lib.hid ((H0.out).step hb); clear hb
    try clear x0
    obtain ⟨x0, _⟩ := H1.out.1
    obtain ⟨y0, _⟩ := H1.out.2.1
    go_wp2_with fail
    have hs1 := H1.out.2.1.1
    have HM := Lib.hid (Ints.made wH1 wH1.heap.size (w.heap.size + 1) rfl hs1)
    have HA1 := Lib.hid (H1.out.alloc (.cells #[] 3))
    clear x0 y0 hs1
    go_loopw [3, 11] (fun u i wr => ∃ m : Nat, m ≤ xs.length ∧ i = .int .i64 m ∧ (∃ g c, u = .slice (some ⟨g, 0, none⟩) (X m).length c) ∧ Ints wr (w.heap.size + 1) u (X m) ∧ Held w wr [(w.heap.size, 0, .slice A xs.length c)]) (fun _ i _ => xs.length - (intOf i).toNat)
    case atStart => exact ⟨0, Nat.zero_le _, rfl, ⟨_, _, by rw [HZ.out]; rfl⟩, by rw [HZ.out]; exact HM.out, HA1.out⟩
    case round =>
      clear H0 H1 HM HA1
      obtain ⟨m, hm, rfl, ⟨g, cg, rfl⟩, hown, hh⟩ := hrel
      have HO := Lib.hid hown; clear hown
      have H1 := Lib.hid hh; clear hh
      by_cases hlt : m < xs.length
      · have HUM := Lib.hid (HU.out m)
        have hln := HLN.out m
        have hln2 : (X m).length ≤ 10 := by omega
        have hsz1 := H1.out.2.1.1
        have q2 : (m : Int) < (xs.length : Int) := by omega
        clear hln
        obtain ⟨hi, hz0, hz1', hz2'⟩ := HF.out
        go_wp2_with (at_builtin; refine wpList_append_own _ rfl _ _ 32 rfl (w.heap.size + 1) 3 i0 (.int .i64 0) 1 8 Try.underlying32 hi hz0 hz1' hz2' rfl (by decide) _ _ _ rfl (World.ownsRow.alloc HO.out _) ⟨wr.heap.size, 0, none⟩ 1 1 [.int .i64 m] rfl rfl ?c1 ?c2 ?c3 ?c4 ?c5 ?_)
        case c1 => exact cell_one_new _ _ _
        case c2 => simp [Value.oneCell']
        case c3 => unfold maxLen; omega
        case c4 => omega
        case c5 => simp; omega
        intro v' w2 hown hgrow _
        have H4 := Lib.hid (H1.out.stepB (B := w.heap.size + 1) ⟨Nat.lt_succ_self _, trivial⟩ (grown_below HO.out hsz1 hgrow) (Nat.le_succ _))
        have HO2 := Lib.hid (Ints.more hown); clear hown hgrow
        go_wp2_with fail
        refine ⟨⟨m + 1, by omega, by go_num, ?_, by rw [HUM.out]; exact HO2.out, H4.out⟩, by simp [intOf]; omega⟩
        rw [HUM.out]
        obtain ⟨a9, cp, e9, -, hc9⟩ := HO2.out.form
        obtain ⟨g9, e8, -⟩ := hc9 0 (by simp)
        exact ⟨g9, cp, by rw [e9, e8]⟩
      · obtain rfl : m = xs.length := by omega
        go_wp2_with fail
        refine (HSO.out _ _ _ (Nat.le_succ _) H1.out HO.out).mono ?_
        rintro e w5 ⟨rfl, hi5, hh5⟩
        have H5 := Lib.hid hh5
        have HI5 := Lib.hid hi5; clear hi5 hh5
        go_wp2_with fail
        go_ret
        exact ⟨_, rfl, HI5.out.mono (by omega), H5.out.below⟩

theorem sortF_succ (xs : List Tr) (n : Nat) : sortL (ltF xs) (idxF (n + 1)) = insL (ltF xs) n (sortL (ltF xs) (idxF n)) := by rw [idxF_succ, sortL_more]
theorem sortF_at (xs : List Tr) {n q : Nat} (h : q < (sortL (ltF xs) (idxF n)).length) : ∃ d : Nat, atZ (sortL (ltF xs) (idxF n)) q = d ∧ d < n := by
  have hm : atZ (sortL (ltF xs) (idxF n)) q ∈ sortL (ltF xs) (idxF n) := by rw [← atZ_get h]; exact List.getElem_mem h
  exact idxF_mem (sortL_mem _ _ _ rfl _ hm)

set_option maxRecDepth 100000 in
set_option maxHeartbeats 4000000 in
theorem specFireOrder (xs : List Tr) (v : Value) (w : World) (hv : Trs w v xs) : Calls Try.prog 60 #[v] w (IntsNew (fireL xs) w) := by
  have hlen := hv.len
  have HV := Lib.hid hv
  have HO := Lib.hid (fun w h => specOkF xs v w h)
  unfold BoolIs at HO
  obtain ⟨A, c, rfl⟩ := hv.form2
  clear hv
  cases ho : okF xs
  · rw [ho] at HO
    have HR := Lib.hid (show fireL xs = [] from by unfold fireL; rw [ho]; rfl)
    generalize fireL xs = R at *
    go_enter Try.func60, Try.ntmps60
    go_wp2_with fail
    go_loopw [3, 4] (fun u i wr => i = .int .i64 0 ∧ Ints wr w.heap.size u [] ∧ Held w wr []) (fun _ _ _ => 0)
    case atStart => exact ⟨rfl, Ints.made _ _ _ rfl (Nat.le_refl _), (Held.none_ w).alloc _⟩
    case round =>
      obtain ⟨rfl, hown, hh⟩ := hrel
      have HOW := Lib.hid hown; clear hown
      have H1 := Lib.hid hh; clear hh
      by_cases h0 : 0 < xs.length
      · have h0i : (0 : Int) < (xs.length : Int) := by omega
        go_wp2_with fail
        refine (HO.out _ (HV.out.step H1.out.below)).mono ?_
        rintro e wH2 ⟨rfl, hb⟩
        have HOW := Lib.hid (HOW.out.step hb)
        have H2 := Lib.hid ((H1.out).step hb); clear hb
        go_wp2_with fail
        go_ret
        exact ⟨_, rfl, by rw [HR.out]; exact HOW.out, H2.out.below⟩
      · have h0i : ¬ (0 : Int) < (xs.length : Int) := by omega
        go_wp2_with fail
        go_ret
        exact ⟨_, rfl, by rw [HR.out]; exact HOW.out, H1.out.below⟩
  · rw [ho] at HO
    have h10 := okF_ten ho
    have HR := Lib.hid (show fireL xs = sortL (ltF xs) (idxF xs.length) from by unfold fireL; rw [ho]; rfl)
    have HSS := Lib.hid (sortF_succ xs)
    have HLN := Lib.hid (fun n => sortL_len (ltF xs) n (idxF n) (idxF_len n))
    have HAT0 := Lib.hid (fun n q h => sortF_at xs (n := n) (q := q) h)
    have HLT0 := Lib.hid (fun k d (h : d < k) => ltF_iff xs h)
    have HZ := Lib.hid (show sortL (ltF xs) (idxF 0) = [] from rfl)
    generalize fireL xs = R at *
    generalize ltF xs = lt at *
    obtain ⟨S, hS⟩ : ∃ S : Nat → List Int, (fun n => sortL lt (idxF n)) = S := ⟨_, rfl⟩
    have HS0 := fun n => congrFun hS n
    simp only [HS0] at HSS HLN HAT0 HZ HR
    clear hS HS0
    obtain ⟨i0, hi, hz0, hz1, hz2⟩ := info_parts infoInt
    have HI := Lib.hid (And.intro hi (And.intro hz0 (And.intro hz1 hz2))); clear hi hz0 hz1 hz2
    clear ho
    go_enter Try.func60, Try.ntmps60
    go_wp2_with fail
    go_loopw [3, 4] (fun u i wr => ∃ m : Nat, m ≤ xs.length ∧ i = .int .i64 m ∧ Ints wr w.heap.size u (S m) ∧ Held w wr []) (fun _ i _ => xs.length - (intOf i).toNat)
    case atStart => exact ⟨0, Nat.zero_le _, rfl, by rw [HZ.out]; exact Ints.made _ _ _ rfl (Nat.le_refl _), (Held.none_ w).alloc _⟩
    case round =>
      obtain ⟨m, hm, rfl, hown, hh⟩ := hrel
      have HOWN := Lib.hid hown; clear hown
      have H1 := Lib.hid hh; clear hh
      by_cases hlt : m < xs.length
      · have HS := Lib.hid (HSS.out m)
        have hll1 := Nat.le_of_eq (HLN.out m)
        have hll2 := Nat.le_of_eq (HLN.out m).symm
        have HAT := Lib.hid (fun q h => HAT0.out m q h)
        have hz1 : (m : Int) < (xs.length : Int) := by omega
        have hz2 : (0 : Int) ≤ m := by omega
        generalize S m = l at *
        go_wp2_with fail
        refine (HO.out _ (HV.out.step H1.out.below)).mono ?_
        rintro e w1 ⟨rfl, hb1⟩
        have HO1 := Lib.hid (HOWN.out.step hb1)
        have H3 := Lib.hid (H1.out.step hb1)
        clear hb1
        obtain ⟨a0, cp0, rfl, hlm, _⟩ := HO1.out.form
        have hsz1 := H3.out.below.size
        obtain ⟨hi, hz0, hz1', hz2'⟩ := HI.out
        go_wp2_with (at_builtin; refine wpList_append_own _ rfl _ _ 32 rfl w.heap.size 3 i0 (.int .i64 0) 1 8 Try.underlying32 hi hz0 hz1' hz2' rfl (by decide) _ _ _ rfl (World.ownsRow.alloc HO1.out _) ⟨w1.heap.size, 0, none⟩ 1 1 [.int .i64 m] rfl rfl ?c1 ?c2 ?c3 ?c4 ?c5 ?_)
        case c1 => exact cell_one_new _ _ _
        case c2 => simp [Value.oneCell']
        case c3 => unfold maxLen; omega
        case c4 => omega
        case c5 => first | omega | (simp; omega)
        intro v' w2 hown hgrow _
        have H4 := Lib.hid (H3.out.stepB (B := w.heap.size) trivial (grown_below HO1.out hsz1 hgrow) (Nat.le_refl _))
        have HO2 := Lib.hid (Ints.more hown); clear hown hgrow
        obtain ⟨g, cp, rfl⟩ := HO2.out.some_ (by simp)
        obtain ⟨L, hlen1⟩ : ∃ L, (l ++ [(m : Int)]).length = L := ⟨_, rfl⟩
        rw [hlen1] at HO2 ⊢
        have hL : L = l.length + 1 := by rw [← hlen1]; simp
        have HLL := Lib.hid hL; clear hL
        clear hi hz0 hz1' hz2' hlen1
        go_wp2_with fail
        have HFIN := Lib.hid (show insM lt m l l.length = insL lt m l from rfl)
        rw [← openL_full] at HO2
        generalize insL lt m l = RR at *
        go_loopw [5] (fun i wr => ∃ (q : Nat) (y : Int), q ≤ l.length ∧ i = .int .i64 q ∧ Ints wr w.heap.size (.slice (some ⟨g, 0, none⟩) L cp) (openL l y q) ∧ insM lt m l q = RR ∧ Held w wr []) (fun i _ => (intOf i).toNat)
        case atStart => exact ⟨l.length, m, Nat.le_refl _, rfl, HO2.out, HFIN.out, H4.out⟩
        case round =>
          clear H1 H3 H4 HO1 HO2 HOWN HFIN
          obtain ⟨q, y, hq, rfl, hown, hR, hh⟩ := hrel
          have HOWN := Lib.hid hown; clear hown
          have H1 := Lib.hid hh; clear hh
          have hol := openL_len l y q hq
          have hL := HLL.out
          cases q with
          | zero =>
            obtain ⟨c0, f0, hgl, hgB, -⟩ := HOWN.out.at_ (j := 0) (by omega)
            generalize atZ (openL l y 0) 0 = z at *
            have HSET := Lib.hid (HOWN.out.set_ (hL.trans hol.symm) 0 m)
            rw [openL_set l y m 0 (by omega), ← insM_zero lt, hR] at HSET
            have HH := Lib.hid (H1.out.setB (j := 0) (x := .int .i64 m) (B := w.heap.size) trivial hgB (Nat.le_refl _))
            have hz3 : (0 : Int) < (L : Int) := by omega
            clear hL
            rw [show ((0 : Nat) : Int) = 0 from rfl]
            go_wp2_with fail
            exact ⟨⟨m + 1, by omega, by go_num, by rw [HS.out]; exact HSET.out, HH.out⟩, by simp [intOf]; omega⟩
          | succ q =>
            obtain ⟨dx, hdx, hdm⟩ := HAT.out q (by omega)
            obtain ⟨c0, f0, hgl, hgB, -⟩ := HOWN.out.at_ (j := q) (by omega)
            obtain ⟨c1, f1, -, -, -⟩ := HOWN.out.at_ (j := q + 1) (by omega)
            rw [openL_at l y q (by omega), hdx] at c0
            obtain ⟨A6', c6', e6, -, -, hcs⟩ := (HV.out.step H1.out.below).form
            simp only [Value.slice.injEq] at e6
            obtain ⟨rfl, -, -⟩ := e6
            obtain ⟨bb, oo, rfl, hbl, g0, g1, g2⟩ := hcs dx (by omega)
            obtain ⟨b9, o9, e9, -, g3, g4, g5⟩ := hcs m hlt
            injection e9 with e9
            injection e9 with e8 e9
            subst e8; subst e9
            clear hcs
            have HLT := Lib.hid (HLT0.out m dx hdm)
            have hda : atZ l q = (dx : Int) := hdx
            have HSTOP := Lib.hid (fun h => (insM_stop lt m l q h).symm.trans hR)
            have HON := Lib.hid (fun h => (insM_on lt m l q h).symm.trans hR)
            rw [hda] at HSTOP HON
            generalize hltr : lt (m : Int) (dx : Int) = r at *
            clear hltr
            generalize atT xs dx = fa at *
            generalize atT xs m = fb at *
            obtain ⟨ax, ay, az⟩ := fa
            obtain ⟨bx, by', bz⟩ := fb
            simp only at HLT g0 g1 g2 g3 g4 g5
            have p1 : (0 : Int) ≤ (q : Int) := by omega
            have p2 : (q : Int) < (L : Int) := by omega
            have p3 : (q : Int) + 1 < (L : Int) := by omega
            have p4 : (0 : Int) ≤ (q : Int) + 1 := by omega
            have p5 : (0 : Int) ≤ dx := by omega
            have p6 : (dx : Int) < (xs.length : Int) := by omega
            have p7 : (0 : Int) < (q : Int) + 1 := by omega
            rw [show ((q + 1 : Nat) : Int) = (q : Int) + 1 from by omega]
            have ew : IntKind.i64.wrap (q : Int) = (q : Int) := by rw [IntWalk.i64_in _ (by omega)]
            generalize atZ (openL l y (q + 1)) (q + 1) = z at *
            have HSETM := Lib.hid (HOWN.out.set_ (HLL.out.trans hol.symm) (q + 1) m)
            rw [openL_set l y m (q + 1) hq] at HSETM
            have HSETD := Lib.hid (HOWN.out.set_ (HLL.out.trans hol.symm) (q + 1) (dx : Int))
            rw [openL_set l y _ (q + 1) hq, ← hda, openL_down l y q (by omega), hda] at HSETD
            have HHM := Lib.hid (H1.out.setB (j := q + 1) (x := .int .i64 m) (B := w.heap.size) trivial hgB (Nat.le_refl _))
            have HHD := Lib.hid (H1.out.setB (j := q + 1) (x := .int .i64 (dx : Int)) (B := w.heap.size) trivial hgB (Nat.le_refl _))
            clear hda hdx hol hL hdm
            have HQ := Lib.hid hq; clear hq
            cases r
            · have HR2 := Lib.hid (HSTOP.out rfl)
              have hno : ¬ (ax < bx ∨ ax = bx ∧ by' < ay) := fun h => by have := HLT.out.2 h; cases this
              clear HLT
              by_cases h1 : bx < ax
              · go_wp2_with fail
                exact ⟨⟨m + 1, by omega, by go_num, by rw [HS.out, ← HR2.out]; exact HSETM.out.step (below2 _ _ _), HHM.out.step (below2 _ _ _)⟩, by simp [intOf]; omega⟩
              · have h2 : ax = bx := by omega
                have h3 : ay ≤ by' := by omega
                have h2b : (ax == bx) = true := by simpa using h2
                clear hno
                have H22 := Lib.hid h2; clear h2
                go_wp2_with fail
                exact ⟨⟨m + 1, by omega, by go_num, by rw [HS.out, ← HR2.out]; exact HSETM.out.step (below2 _ _ _), HHM.out.step (below2 _ _ _)⟩, by simp [intOf]; omega⟩
            · have HR2 := Lib.hid (HON.out rfl)
              have hyes := HLT.out.1 rfl
              clear HLT
              have h1 : ¬ bx < ax := by omega
              by_cases h2 : ax = bx
              · have h3 : ¬ ay ≤ by' := by omega
                have h2b : (ax == bx) = true := by simpa using h2
                have H22 := Lib.hid h2; clear h2 hyes
                go_wp2_with fail
                exact ⟨⟨q, _, by have := HQ.out; omega, by go_num, HSETD.out.step (below2 _ _ _), HR2.out, HHD.out.step (below2 _ _ _)⟩, by simp [intOf]⟩
              · have h2b : (ax == bx) = false := by simpa using h2
                have h2c : decide (ax = bx) = false := by simpa using h2
                clear hyes
                have H22 := Lib.hid h2; clear h2
                go_wp2_with fail
                exact ⟨⟨q, _, by have := HQ.out; omega, by go_num, HSETD.out.step (below2 _ _ _), HR2.out, HHD.out.step (below2 _ _ _)⟩, by simp [intOf]⟩
      · obtain rfl : m = xs.length := by omega
        go_wp2_with fail
        go_ret
        exact ⟨_, rfl, by rw [HR.out]; exact HOWN.out, H1.out.below⟩
end Go.Proofs.Ytfppnaknnijobab
