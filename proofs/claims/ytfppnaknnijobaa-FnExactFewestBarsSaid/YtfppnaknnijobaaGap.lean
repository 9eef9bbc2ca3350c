/-
  Heights of nodes, bars between them, the widest gap: of the program and of the model.
-/
import Derived.Test.YtfppnaknnijobaaBars
import Derived.Test.YtfppnaknnijobaaWinS
import Derived.Test.YtfppnaknnijobaaWinJ
import Derived.Test.YtfppnaknnijobaaDart
import Derived.Test.YtfppnaknnijobaaInts
namespace Go.Proofs.Ytfppnaknnijobaa
open Go.RowKit
set_option linter.unusedVariables false
set_option linter.unusedSimpArgs false

def lowN (ns : List Nd) : Nat → Int
  | 0 => (atN ns 0).y
  | n + 1 => min (lowN ns n) (atN ns n).y
def highN (ns : List Nd) : Nat → Int
  | 0 => (atN ns 0).y
  | n + 1 => max (highN ns n) (atN ns n).y
theorem low_high_bd {ns ls : List Nd} (hw : winB ns ls = true) : ∀ n, n ≤ ns.length → (0 ≤ lowN ns n ∧ lowN ns n ≤ 20) ∧ (0 ≤ highN ns n ∧ highN ns n ≤ 20)
  | 0, _ => by
    have h := (winB_iff ns ls).1 hw
    have hp := h.1
    have := (inB_iff _ _ _).1 (by have := (h.2.1 0 (by omega)).1; unfold okB at this; simp only [Bool.and_eq_true] at this; exact this.2)
    unfold lowN highN
    omega
  | n + 1, hn => by
    have h := (winB_iff ns ls).1 hw
    have hp := h.1
    have := (inB_iff _ _ _).1 (by have := (h.2.1 n (by omega)).1; unfold okB at this; simp only [Bool.and_eq_true] at this; exact this.2)
    have ih := low_high_bd hw n (by omega)
    unfold lowN highN
    omega
theorem win_pos {ns ls : List Nd} (hw : winB ns ls = true) : 0 < ns.length := by
  have h := ((winB_iff ns ls).1 hw).1
  omega
def betL (lo hi : Int) (xs : List Int) : Nat → List Int
  | 0 => []
  | n + 1 => if inB (atZ xs n) lo hi = true then betL lo hi xs n ++ [atZ xs n] else betL lo hi xs n
theorem betL_succ (lo hi : Int) (xs : List Int) (n : Nat) : betL lo hi xs (n + 1) = if inB (atZ xs n) lo hi = true then betL lo hi xs n ++ [atZ xs n] else betL lo hi xs n := rfl
theorem betL_len (lo hi : Int) (xs : List Int) : ∀ n, (betL lo hi xs n).length ≤ n
  | 0 => Nat.le_refl _
  | n + 1 => by
    have := betL_len lo hi xs n
    rw [betL_succ]
    split
    · simp; omega
    · omega
theorem betL_mem {lo hi : Int} {xs : List Int} {x : Int} : ∀ n, x ∈ betL lo hi xs n → lo ≤ x ∧ x ≤ hi
  | 0, h => by simp [betL] at h
  | n + 1, h => by
    rw [betL_succ] at h
    split at h
    · rename_i hb
      rw [List.mem_append] at h
      rcases h with h | h
      · exact betL_mem n h
      · have e : x = atZ xs n := by simpa using h
        rw [e]
        exact (inB_iff _ _ _).1 hb
    · exact betL_mem n h
/-- The widest of the first n steps. -/
def wdL (L : List Int) : Nat → Int
  | 0 => 0
  | n + 1 => max (wdL L n) (atZ L (n + 1) - atZ L n)
theorem wdL_bd {L : List Int} (h : ∀ k, k < L.length → 0 ≤ atZ L k ∧ atZ L k ≤ 20) : ∀ n, n < L.length → 0 ≤ wdL L n ∧ wdL L n ≤ 20
  | 0, _ => by simp [wdL]
  | n + 1, hn => by
    have ih := wdL_bd h n (by omega)
    have := h n (by omega)
    have := h (n + 1) hn
    unfold wdL
    omega
def gf (s : Int × Int) (b : Int) : Int × Int := (max s.1 (b - s.2), b)
theorem fold_wd (a : Int) (t : List Int) : ∀ n, n ≤ t.length → (t.take n).foldl gf (0, a) = (wdL (a :: t) n, atZ (a :: t) n)
  | 0, _ => rfl
  | n + 1, h => by
    rw [List.take_succ_eq_append_getElem (show n < t.length by omega), List.foldl_append, fold_wd a t n (by omega)]
    have e : t[n]'(by omega) = atZ (a :: t) (n + 1) := by rw [atZ_get (show n < t.length by omega)]; simp [atZ, List.getD]
    rw [e]
    rfl
/-- The model's widest gap and last bar behind n bars. -/
def gapS (lo hi : Int) (xs : List Int) (n : Nat) : Int × Int := (betL lo hi xs n).foldl gf (0, lo)
theorem gapS_succ (lo hi : Int) (xs : List Int) (n : Nat) : gapS lo hi xs (n + 1) = if inB (atZ xs n) lo hi = true then gf (gapS lo hi xs n) (atZ xs n) else gapS lo hi xs n := by
  unfold gapS
  rw [betL_succ]
  split
  · rw [List.foldl_append]; rfl
  · rfl
def hgt (lo hi : Int) (xs : List Int) : List Int := lo :: (betL lo hi xs xs.length ++ [hi])
theorem gap_eq (lo hi : Int) (xs : List Int) : wdL (hgt lo hi xs) ((betL lo hi xs xs.length).length + 1) = max (gapS lo hi xs xs.length).1 (hi - (gapS lo hi xs xs.length).2) := by
  have h := fold_wd lo (betL lo hi xs xs.length ++ [hi]) ((betL lo hi xs xs.length).length + 1) (by simp)
  rw [List.take_of_length_le (by simp), List.foldl_append] at h
  have h1 := congrArg Prod.fst h
  exact h1.symm
theorem hgt_bd {lo hi : Int} (xs : List Int) (l1 : 0 ≤ lo ∧ lo ≤ 20) (h1 : 0 ≤ hi ∧ hi ≤ 20) : ∀ k, k < (hgt lo hi xs).length → 0 ≤ atZ (hgt lo hi xs) k ∧ atZ (hgt lo hi xs) k ≤ 20 := by
  intro k hk
  have hm : atZ (hgt lo hi xs) k ∈ hgt lo hi xs := by rw [← atZ_get hk]; exact List.getElem_mem hk
  unfold hgt at hm
  rw [List.mem_cons, List.mem_append] at hm
  rcases hm with e | e | e
  · unfold hgt; rw [e]; exact l1
  · have := betL_mem _ e
    unfold hgt
    omega
  · have e : atZ (lo :: (betL lo hi xs xs.length ++ [hi])) k = hi := by simpa using e
    unfold hgt
    rw [e]
    exact h1
theorem gapS_bd {lo hi : Int} (xs : List Int) (l1 : 0 ≤ lo ∧ lo ≤ 20) (h1 : 0 ≤ hi ∧ hi ≤ 20) : ∀ n, (0 ≤ (gapS lo hi xs n).1 ∧ (gapS lo hi xs n).1 ≤ 20) ∧ (0 ≤ (gapS lo hi xs n).2 ∧ (gapS lo hi xs n).2 ≤ 20)
  | 0 => by
    unfold gapS betL
    simp
    omega
  | n + 1 => by
    have ih := gapS_bd xs l1 h1 n
    rw [gapS_succ]
    split
    · rename_i hb
      have := (inB_iff _ _ _).1 hb
      unfold gf
      simp only
      omega
    · exact ih
noncomputable def gapW (ns ls : List Nd) (xs : List Int) : Int := if winB ns ls && barB xs then max (gapS (lowN ns ns.length) (highN ns ns.length) xs xs.length).1 (highN ns ns.length - (gapS (lowN ns ns.length) (highN ns ns.length) xs xs.length).2) else -1

set_option maxRecDepth 100000 in
theorem implHeights (ns : List Nd) (v : Value) (w : World) (hn : Prs w v ns) (h0 : 0 < ns.length) :
    Calls Try.prog 58 #[v] w (TwoIs (lowN ns ns.length) (highN ns ns.length) w) := by
  have hlen := hn.len
  have HN := Lib.hid hn
  obtain ⟨b0, o0, c, rfl, hb0, hc0⟩ := prs_at2 hn h0
  obtain ⟨k0, k1⟩ := hc0 0 h0
  have HLZ := Lib.hid (show lowN ns 0 = (atN ns 0).y from rfl)
  have HHZ := Lib.hid (show highN ns 0 = (atN ns 0).y from rfl)
  have HLS := Lib.hid (fun n => show lowN ns (n + 1) = min (lowN ns n) (atN ns n).y from rfl)
  have HHS := Lib.hid (fun n => show highN ns (n + 1) = max (highN ns n) (atN ns n).y from rfl)
  have hz0 : (0 : Int) < (ns.length : Int) := by omega
  simp only [Nat.zero_mul, Nat.add_zero] at k0 k1
  clear hn hc0
  generalize lowN ns = lo at *
  generalize highN ns = hi at *
  generalize hy : (atN ns 0).y = y0 at *
  clear hy
  go_enter Try.func58, Try.ntmps58
  go_wp2_with fail
  go_quiet (fail)
  go_wp2_with fail
  have H0 := Lib.hid ((Held.none_ w).drewN nq)
  clear k0 k1
  go_loopw [4, 5, 18] (fun a b i wr => ∃ m : Nat, m ≤ ns.length ∧ i = .int .i64 m ∧ a = .int .i64 (lo m) ∧ b = .int .i64 (hi m) ∧ Held w wr []) (fun _ _ i _ => ns.length - (intOf i).toNat)
  case atStart => exact ⟨0, Nat.zero_le _, rfl, by rw [HLZ.out], by rw [HHZ.out], H0.out⟩
  case round =>
    clear H0
    obtain ⟨m, hm, rfl, rfl, rfl, hh⟩ := hrel
    have H1 := Lib.hid hh; clear hh
    by_cases hlt : m < ns.length
    · obtain ⟨bb, o, c', he, hbl, hcs⟩ := prs_at2 (HN.out.step H1.out.below) hlt
      injection he with he1 he2 he3
      injection he1 with he1
      simp only [Addr.mk.injEq] at he1
      obtain ⟨rfl, rfl, -⟩ := he1
      obtain ⟨p0, p1⟩ := hcs m hlt
      clear hcs he2 he3
      have HSL := Lib.hid (HLS.out m)
      have HSH := Lib.hid (HHS.out m)
      have hz1 : (m : Int) < (ns.length : Int) := by omega
      have hz2 : (0 : Int) ≤ m := by omega
      generalize (atN ns m).x = xa at *
      generalize (atN ns m).y = y1 at *
      generalize hlm : lo m = lm at *
      generalize hhm : hi m = hm' at *
      go_wp2_with fail
      have H3 := Lib.hid (H1.out.new2 wr.heap.size rfl [.int .i64 xa, .int .i64 y1] 49)
      obtain ⟨x0, x1, _⟩ := H3.out.1
      refine regionD (S := fun W => Held _ W [(wr.heap.size, 0, .int .i64 (xa)), (wr.heap.size, 1, .int .i64 (y1))]) (by kernel_rfl) H3.out.drew ?_
      iterate 10 (refine takeT (v := ?_) rfl (by kernel_rfl) (by kernel_rfl) (by kernel_rfl) ?_ ?_; rotate_left; (first | (refine Or.inr ⟨by rfl, ?_⟩; with_reducible rfl) | (refine Or.inl ⟨by rfl, fun W hS => detRes_value (w' := W) ?_ hS⟩; obtain ⟨x0, x1, _⟩ := hS.1; go_simp; first | done | with_reducible rfl) | fail); (simp only [Act.put, List.setIfInBounds_toArray, List.set_cons_zero, List.set_cons_succ]))
      refine doneD (by kernel_rfl) fun wH4 HS => ?_
      have H4 := Lib.hid HS; clear HS
      try clear x0 x1
      obtain ⟨x0, x1, _⟩ := H4.out.1
      go_wp2_with fail
      exact ⟨⟨m + 1, by omega, by go_num, by rw [HSL.out]; first | rfl | (congr 1; first | (split <;> omega) | omega), by rw [HSH.out]; first | rfl | (congr 1; first | (split <;> omega) | omega), H4.out.only (fun _ => trivial) (fun _ => trivial)⟩, by simp [intOf]; omega⟩
    · obtain rfl : m = ns.length := by omega
      go_wp2_with fail
      refine bodyPost_ret (v := .tuple #[.int .i64 (lo ns.length), .int .i64 (hi ns.length)]) (by simp [results, Try.results58, go_sem]) rfl ⟨rfl, H1.out.below⟩

set_option maxRecDepth 100000 in
theorem specHeights (ns : List Nd) (v vl : Value) (w : World) (hn : Prs w v ns) (h0 : 0 < ns.length) :
    Calls Try.prog 64 #[.agg #[v, vl]] w (TwoIs (lowN ns ns.length) (highN ns ns.length) w) := by
  have hlen := hn.len
  have HN := Lib.hid hn
  have H0 := Lib.hid (held_pair w v vl 32)
  obtain ⟨b0, o0, c, rfl, hb0, hc0⟩ := prs_at2 (hn.step H0.out.below) h0
  obtain ⟨k0, k1⟩ := hc0 0 h0
  have HLZ := Lib.hid (show lowN ns 0 = (atN ns 0).y from rfl)
  have HHZ := Lib.hid (show highN ns 0 = (atN ns 0).y from rfl)
  have HLS := Lib.hid (fun n => show lowN ns (n + 1) = min (lowN ns n) (atN ns n).y from rfl)
  have HHS := Lib.hid (fun n => show highN ns (n + 1) = max (highN ns n) (atN ns n).y from rfl)
  have hz0 : (0 : Int) < (ns.length : Int) := by omega
  simp only [Nat.zero_mul, Nat.add_zero] at k0 k1
  clear hn hc0
  generalize lowN ns = lo at *
  generalize highN ns = hi at *
  generalize hy : (atN ns 0).y = y0 at *
  clear hy
  obtain ⟨x0, x1, _⟩ := H0.out.1
  go_enter Try.func64, Try.ntmps64
  go_wp2_with fail
  clear k0 k1 x0 x1
  go_loopw [4, 5, 6] (fun a b i wr => ∃ m : Nat, m ≤ ns.length ∧ i = .int .i64 m ∧ a = .int .i64 (lo m) ∧ b = .int .i64 (hi m) ∧ Held w wr [(w.heap.size, 0, .slice (some ⟨b0, o0, none⟩) ns.length c), (w.heap.size, 1, vl)]) (fun _ _ i _ => ns.length - (intOf i).toNat)
  case atStart => exact ⟨0, Nat.zero_le _, rfl, by rw [HLZ.out], by rw [HHZ.out], H0.out⟩
  case round =>
    clear H0
    obtain ⟨m, hm, rfl, rfl, rfl, hh⟩ := hrel
    have H1 := Lib.hid hh; clear hh
    obtain ⟨x0, x1, _⟩ := H1.out.1
    by_cases hlt : m < ns.length
    · obtain ⟨bb, o, c', he, hbl, hcs⟩ := prs_at2 (HN.out.step H1.out.below) hlt
      injection he with he1 he2 he3
      injection he1 with he1
      simp only [Addr.mk.injEq] at he1
      obtain ⟨rfl, rfl, -⟩ := he1
      obtain ⟨p0, p1⟩ := hcs m hlt
      clear hcs he2 he3
      have HSL := Lib.hid (HLS.out m)
      have HSH := Lib.hid (HHS.out m)
      have hz1 : (m : Int) < (ns.length : Int) := by omega
      have hz2 : (0 : Int) ≤ m := by omega
      generalize (atN ns m).x = xa at *
      generalize (atN ns m).y = y1 at *
      generalize hlm : lo m = lm at *
      generalize hhm : hi m = hm' at *
      go_wp2_with fail
      exact ⟨⟨m + 1, by omega, by go_num, by rw [HSL.out]; first | rfl | (congr 1; first | (split <;> omega) | omega), by rw [HSH.out]; first | rfl | (congr 1; first | (split <;> omega) | omega), H1.out⟩, by simp [intOf]; omega⟩
    · obtain rfl : m = ns.length := by omega
      go_wp2_with fail
      refine bodyPost_ret (v := .tuple #[.int .i64 (lo ns.length), .int .i64 (hi ns.length)]) (by simp [results, Try.results64, go_sem]) rfl ⟨rfl, H1.out.below⟩

/-- Ints in new memory, and not nil. -/
def IntsSome (xs : List Int) (w : World) (e : Ending) (w' : World) : Prop := ∃ g c, e = .returned (.slice (some ⟨g, 0, none⟩) xs.length c) ∧ Ints w' w.heap.size (.slice (some ⟨g, 0, none⟩) xs.length c) xs ∧ Below w.heap.size w w'
set_option maxRecDepth 100000 in
set_option maxHeartbeats 1000000 in
theorem implBetw (xs : List Int) (v : Value) (lo hi : Int) (w : World) (hv : Seq w v xs) (hlen : xs.length ≤ 1000) :
    Calls Try.prog 61 #[v, .int .i64 lo, .int .i64 hi] w (IntsSome (betL lo hi xs xs.length) w) := by
  have HV := Lib.hid hv
  obtain ⟨A, c, rfl⟩ := seq_form2 hv
  obtain ⟨i0, hi', hz0, hz1, hz2⟩ := info_parts infoInt
  have HI := Lib.hid (And.intro hi' (And.intro hz0 (And.intro hz1 hz2))); clear hi' hz0 hz1 hz2
  have HU := Lib.hid (fun n => show betL lo hi xs (n + 1) = if inB (atZ xs n) lo hi = true then betL lo hi xs n ++ [atZ xs n] else betL lo hi xs n from rfl)
  have HLN := Lib.hid (betL_len lo hi xs)
  have HZ := Lib.hid (show betL lo hi xs 0 = [] from rfl)
  clear hv
  generalize betL lo hi xs = X at *
  go_enter Try.func61, Try.ntmps61
  go_wp2_with fail
  go_loopw [7, 13] (fun u i wr => ∃ m : Nat, m ≤ xs.length ∧ i = .int .i64 m ∧ (∃ g c, u = .slice (some ⟨g, 0, none⟩) (X m).length c) ∧ Ints wr w.heap.size u (X m) ∧ Held w wr []) (fun _ i _ => xs.length - (intOf i).toNat)
  case atStart => exact ⟨0, Nat.zero_le _, rfl, ⟨_, _, by rw [HZ.out]; rfl⟩, by rw [HZ.out]; exact Ints.made _ _ _ rfl (Nat.le_refl _), (Held.none_ w).alloc _⟩
  case round =>
    obtain ⟨m, hm, rfl, ⟨g, cg, rfl⟩, hown, hh⟩ := hrel
    have HO2 := Lib.hid hown; clear hown
    have H2 := Lib.hid hh; clear hh
    by_cases hlt : m < xs.length
    · obtain ⟨A6', c6', e6, -, -, hcs⟩ := (HV.out.step H2.out.below).form
      simp only [Value.slice.injEq] at e6
      obtain ⟨rfl, -, -⟩ := e6
      obtain ⟨bb, oo, rfl, -, k0⟩ := hcs m hlt
      clear hcs
      have HUM := Lib.hid (HU.out m)
      have hln := HLN.out m
      have q1 : (0 : Int) ≤ m := by omega
      have q2 : (m : Int) < (xs.length : Int) := by omega
      generalize atZ xs m = z at *
      by_cases h1 : lo ≤ z
      · by_cases h2 : z ≤ hi
        · replace HUM := Lib.hid (show X (m + 1) = X m ++ [z] from by rw [HUM.out, if_pos ((inB_iff _ _ _).2 ⟨h1, h2⟩)])
          obtain ⟨hi', hz0, hz1', hz2'⟩ := HI.out
          have hsz1 := H2.out.below.size
          go_wp2_with (at_builtin; refine wpList_append_own _ rfl _ _ 26 rfl w.heap.size 3 i0 (.int .i64 0) 1 8 Try.underlying26 hi' hz0 hz1' hz2' rfl (by decide) _ _ _ rfl (World.ownsRow.alloc HO2.out _) ⟨_, 0, none⟩ 1 1 [.int .i64 z] rfl rfl ?c1 ?c2 ?c3 ?c4 ?c5 ?_)
          case c1 => exact cell_one_new _ _ _
          case c2 => simp [Value.oneCell']
          case c3 => unfold maxLen; omega
          case c4 => omega
          case c5 => simp <;> omega
          intro v' w5 hown hgrow _
          have H5 := Lib.hid (H2.out.stepB (B := w.heap.size) trivial (grown_below HO2.out hsz1 hgrow) (Nat.le_refl _))
          have HO5 := Lib.hid (Ints.more hown); clear hown hgrow
          go_wp2_with fail
          refine ⟨⟨m + 1, by omega, by go_num, ?_, by rw [HUM.out]; exact HO5.out, H5.out⟩, by simp [intOf]; omega⟩
          rw [HUM.out]
          obtain ⟨a9, cp, e9, -, hc9⟩ := HO5.out.form
          obtain ⟨g9, e8, -⟩ := hc9 0 (by simp)
          exact ⟨g9, cp, by rw [e9, e8]⟩
        · replace HUM := Lib.hid (show X (m + 1) = X m from by rw [HUM.out, if_neg (fun h => h2 ((inB_iff _ _ _).1 h).2)])
          go_wp2_with fail
          exact ⟨⟨m + 1, by omega, by go_num, by rw [HUM.out]; exact ⟨_, _, rfl⟩, by rw [HUM.out]; exact HO2.out, H2.out⟩, by simp [intOf]; omega⟩
      · replace HUM := Lib.hid (show X (m + 1) = X m from by rw [HUM.out, if_neg (fun h => h1 ((inB_iff _ _ _).1 h).1)])
        go_wp2_with fail
        exact ⟨⟨m + 1, by omega, by go_num, by rw [HUM.out]; exact ⟨_, _, rfl⟩, by rw [HUM.out]; exact HO2.out, H2.out⟩, by simp [intOf]; omega⟩
    · obtain rfl : m = xs.length := by omega
      go_wp2_with fail
      go_ret
      exact ⟨_, _, rfl, HO2.out, H2.out.below⟩

end Go.Proofs.Ytfppnaknnijobaa
