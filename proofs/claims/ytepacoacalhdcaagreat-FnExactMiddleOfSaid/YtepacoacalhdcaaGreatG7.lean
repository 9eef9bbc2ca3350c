/-
  Several texts in one: a claim has at most 60 files.
-/
import Derived.Test.YtepacoacalhdcaaGreatG20
import Derived.Test.YtepacoacalhdcaaGreatG3
import Derived.Test.YtepacoacalhdcaaGreatG12

namespace Go.Proofs.YtepacoacalhdcaaGreat
open Go.RowKit
set_option linter.unusedVariables false
set_option linter.unusedSimpArgs false

/-- The nodes at which the darts begin. -/
def bordL (ls : List Nd) (r : List Int) (n : Nat) : List Int := (r.take n).map fun d => dF ls d.toNat

theorem bordL_succ {ls : List Nd} {r : List Int} {n q : Nat} (h : n < r.length) (hq : atZ r n = (q : Int)) : bordL ls r (n + 1) = bordL ls r n ++ [dF ls q] := by
  unfold bordL
  rw [List.take_succ_eq_append_getElem h, atZ_get h, hq]
  simp

theorem bordL_len (ls : List Nd) (r : List Int) (n : Nat) : (bordL ls r n).length ≤ n := by unfold bordL; rw [List.length_map, List.length_take]; omega

def bord (ls : List Nd) (r : List Int) : List Int := bordL ls r r.length

theorem bord_len (ls : List Nd) (r : List Int) : (bord ls r).length = r.length := by unfold bord bordL; simp

noncomputable def paneW (ns ls : List Nd) (f : Int) : List Int := if idxB (wF ns ls).length f = true then bord ls (atR (wF ns ls) f.toNat) else []

theorem paneW_len (ns ls : List Nd) (f : Int) : (paneW ns ls f).length ≤ 40 := by
  unfold paneW
  by_cases h : idxB (wF ns ls).length f = true
  · rw [if_pos h, bord_len]
    obtain ⟨k, rfl, hk⟩ := idx_nat h
    exact (row_len hk).1
  · rw [if_neg h]; simp

/-- Are they pairwise different? -/
def diffB (xs : List Int) : Bool := decide xs.Nodup

theorem diff_take {xs : List Int} {m : Nat} (h : m < xs.length) : (xs.take (m + 1)).Nodup ↔ (xs.take m).Nodup ∧ ¬ (xs.take m).contains (atZ xs m) = true := by
  rw [List.take_succ_eq_append_getElem h, atZ_get h, List.nodup_append]
  simp only [List.nodup_cons, List.not_mem_nil, not_false_iff, List.nodup_nil, and_true, true_and, List.mem_singleton, List.contains_iff_mem]
  constructor
  · rintro ⟨h1, h2⟩
    exact ⟨h1, fun hm => h2 _ hm _ rfl rfl⟩
  · rintro ⟨h1, h2⟩
    exact ⟨h1, fun a ha b hb e => h2 (by rw [← hb, ← e]; exact ha)⟩

theorem diff_no {xs : List Int} {m : Nat} (h : ¬ (xs.take m).Nodup) : diffB xs = false := decide_eq_false fun hn => h (hn.sublist (List.take_sublist _ _))

end Go.Proofs.YtepacoacalhdcaaGreat

namespace Go.Proofs.YtepacoacalhdcaaGreat
open Go.RowKit
set_option linter.unusedVariables false
set_option linter.unusedSimpArgs false

/-- Is f a pane, where o is the wall around? -/
def testB (ls : List Nd) (rs : List (List Int)) (o f : Int) : Bool := idxB rs.length f && (decide (f ≠ o) && diffB (bord ls (atR rs f.toNat)))

/-- The cells of the test: the wall around, the glass. -/
def tstFs (b1 b2 : Nat) (o : Int) (v1 v2 v3 v4 : Value) : List (Nat × Nat × Value) := [(b2, 0, .int .i64 o), (b1, 0, v1), (b1, 1, v2), (b1, 2, v3), (b1, 3, v4)]

noncomputable def paneB (ns ls : List Nd) (f : Int) : Bool := testB ls (wF ns ls) (outW ns ls) f

noncomputable def panesW (ns ls : List Nd) : List Int := fltN (fun k => paneB ns ls k) (wF ns ls).length

theorem panesW_len (ns ls : List Nd) : (panesW ns ls).length ≤ 40 := by
  have := fltN_len (fun k => paneB ns ls k) (wF ns ls).length
  have := wF_len (ns := ns) (ls := ls)
  unfold panesW
  omega

theorem g_bord {ns ls : List Nd} {k : Nat} (h : k < (wF ns ls).length) (r : List Int) : bord (gL ns ls) r = bord ls r := by
  unfold gL
  rw [if_pos (wF_row h).1]

theorem g_test (ns ls : List Nd) (f : Int) : testB (gL ns ls) (wF ns ls) (outW ns ls) f = paneB ns ls f := by
  unfold paneB testB
  by_cases h : idxB (wF ns ls).length f = true
  · obtain ⟨k, rfl, hk⟩ := idx_nat h
    rw [g_bord hk]
  · rw [show idxB (wF ns ls).length f = false by simpa using h]
    rfl

end Go.Proofs.YtepacoacalhdcaaGreat

namespace Go.Proofs.YtepacoacalhdcaaGreat
open Go.RowKit
set_option linter.unusedVariables false
set_option linter.unusedSimpArgs false

theorem paneB_is (ns ls : List Nd) (f : Int) : paneB ns ls f = (decide (0 < (paneW ns ls f).length) && (decide (f ≠ outW ns ls) && diffB (paneW ns ls f))) := by
  unfold paneB testB paneW
  by_cases h : idxB (wF ns ls).length f = true
  · rw [if_pos h, h]
    obtain ⟨k, rfl, hk⟩ := idx_nat h
    rw [bord_len, show decide (0 < (atR (wF ns ls) (k : Int).toNat).length) = true from decide_eq_true (row_len hk).2]
  · rw [if_neg h, show idxB (wF ns ls).length f = false by simpa using h]
    rfl

end Go.Proofs.YtepacoacalhdcaaGreat

namespace Go.Proofs.YtepacoacalhdcaaGreat
open Go.RowKit
set_option linter.unusedVariables false
set_option linter.unusedSimpArgs false

/-- The first one of the greatest area among the first n. -/
def widL (ar : Int → Int) (xs : List Int) : Nat → Int
  | 0 => -1
  | n + 1 => if widL ar xs n < 0 then atZ xs n else if ar (widL ar xs n) < ar (atZ xs n) then atZ xs n else widL ar xs n

theorem widL_succ (ar : Int → Int) (xs : List Int) (n : Nat) : widL ar xs (n + 1) = if widL ar xs n < 0 then atZ xs n else if ar (widL ar xs n) < ar (atZ xs n) then atZ xs n else widL ar xs n := rfl

noncomputable def widW (ns ls : List Nd) : Int := widL (areaW ns ls) (panesW ns ls) (panesW ns ls).length

end Go.Proofs.YtepacoacalhdcaaGreat

namespace Go.Proofs.YtepacoacalhdcaaGreat
open Go.RowKit
set_option linter.unusedVariables false
set_option linter.unusedSimpArgs false

theorem metWind (k : Nat) (v : Value) (w : World) : Sem.run Tryz.prog (method (k + 1) 168 v "loop.example/g03303/impl.force") w = .ok (139, v) w := by kernel_rfl

theorem entWind (args : Array Value) (w : World) : Sem.run Tryz.prog (callFunc 139 args) w = .ok (.enter 139 args) w := by kernel_rfl

theorem area_nn {ns ls : List Nd} {f : Int} (h : idxB (wF ns ls).length f = true) : 0 ≤ areaW ns ls f ∧ areaW ns ls f ≤ 16000 := by
  obtain ⟨k, rfl, hk⟩ := idx_nat h
  have hb := areaR_bd (wF_ok ns ls) hk
  unfold areaW absR
  rw [if_pos h, show ((k : Int)).toNat = k from rfl]
  omega

theorem mul_bd {a p : Int} (h1 : 0 ≤ a) (h2 : a ≤ 16000) (h3 : 0 ≤ p) (h4 : p ≤ 1000) : 0 ≤ a * p ∧ a * p ≤ 16000000 := by
  refine ⟨Int.mul_nonneg h1 h3, ?_⟩
  have := Int.mul_le_mul h2 h4 h3 (by omega)
  omega

noncomputable def okL (ns ls : List Nd) (f p : Int) : Bool := idxB (wF ns ls).length f && inB p 0 1000

noncomputable def loadW (ns ls : List Nd) (f p : Int) : Int := if okL ns ls f p = true then areaW ns ls f * p else -1

noncomputable def loadV (ns ls : List Nd) (f p : Int) : Value := if okL ns ls f p = true then .iface 168 (.agg #[.int .i64 (areaW ns ls f), .int .i64 p]) else .iface 170 (.agg #[])

theorem okL_parts {ns ls : List Nd} {f p : Int} (h : okL ns ls f p = true) : idxB (wF ns ls).length f = true ∧ inB p 0 1000 = true := by unfold okL at h; simpa using h

theorem implForceW (a p : Int) (w : World) (he : IntKind.i64.wrap (a * p) = a * p) : Calls Tryz.prog 139 #[.agg #[.int .i64 a, .int .i64 p]] w (IntIs (a * p) w) := by
  go_enter Tryz.func139, Tryz.ntmps139
  go_wp2_with fail
  go_ret
  exact ⟨rfl, below_alloc _ _⟩

theorem implPress (p : Int) (w : World) : Calls Tryz.prog 72 #[.int .i64 p] w (BoolIs (inB p 0 1000) w) := by
  by_cases h0 : 0 ≤ p
  · by_cases h1 : p ≤ 1000
    · go_enter Tryz.func72, Tryz.ntmps72
      go_wp2_with fail
      go_ret
      exact ⟨ret_bool (by simp [inB, h0, h1]), Below.refl _ _⟩
    · go_enter Tryz.func72, Tryz.ntmps72
      go_wp2_with fail
      go_ret
      exact ⟨ret_bool (by simp [inB]; omega), Below.refl _ _⟩
  · go_enter Tryz.func72, Tryz.ntmps72
    go_wp2_with fail
    go_ret
    exact ⟨ret_bool (by simp [inB]; omega), Below.refl _ _⟩

set_option maxRecDepth 100000 in
set_option maxHeartbeats 2000000 in
theorem implLoadG (ns ls : List Nd) (v1 v2 v3 v4 : Value) (B : Nat) (f p : Int) (w : World) (g1 : Prs w v1 (gN ns ls)) (g2 : Prs w v2 (gL ns ls)) (g3 : Faces w B v3 (wF ns ls)) (g4 : Ints w B v4 (gA ns ls)) :
    Calls Tryz.prog 77 #[.agg #[v1, v2, v3, v4], .int .i64 f, .int .i64 p] w (fun e w' => e = .returned (loadV ns ls f p) ∧ Below w.heap.size w w') := by
  have HH := Lib.hid (fun (A1 A2 A3 A4 : Option Addr) (n1 c1 n2 c2 c3 n4 c4 : Nat) w => implHasFace A1 A2 A3 A4 n1 c1 n2 c2 (wF ns ls).length c3 n4 c4 f w (by have := wF_len (ns := ns) (ls := ls); omega))
  have HPR := Lib.hid (implPress p)
  unfold BoolIs at HH HPR
  by_cases hf : idxB (wF ns ls).length f = true
  · obtain ⟨k, rfl, hk⟩ := idx_nat hf
    have HA := Lib.hid (fun W (hb : Below w.heap.size w W) => implArea (gN ns ls) (gL ns ls) v1 v2 v3 v4 (wF ns ls) (gA ns ls) B k W (g1.step hb) (g2.step hb) (g3.step hb) (g4.step hb) (g_ok ns ls) hk)
    rw [g_area hk] at HA
    unfold IntIs at HA
    rw [hf] at HH
    by_cases hp : inB p 0 1000 = true
    · have HR := Lib.hid (show loadV ns ls k p = .iface 168 (.agg #[.int .i64 (areaW ns ls k), .int .i64 p]) from by unfold loadV okL; rw [hf, hp]; rfl)
      rw [hp] at HPR
      obtain ⟨A5, c5, rfl⟩ := prs_form2 g1
      obtain ⟨A6, c6, rfl⟩ := prs_form2 g2
      obtain ⟨A7, c7, rfl⟩ := faces_form g3
      obtain ⟨A8, c8, rfl⟩ := ints_form g4
      have H0 := Lib.hid (heldG w (.slice A5 (gN ns ls).length c5) (.slice A6 (gL ns ls).length c6) (.slice A7 (wF ns ls).length c7) (.slice A8 (gA ns ls).length c8) 98)
      clear hf hp hk g1 g2 g3 g4
      generalize loadV ns ls (k : Int) p = res at *
      generalize areaW ns ls (k : Int) = ar at *
      generalize gN ns ls = ns' at *
      generalize gL ns ls = ls' at *
      generalize gA ns ls = ds at *
      generalize wF ns ls = rs at *
      obtain ⟨x0, x1, x2, x3, _⟩ := H0.out.1
      go_enter Tryz.func77, Tryz.ntmps77
      go_wp2_with fail
      refine (HH.out _ _ _ _ _ _ _ _ _ _ _ _).mono ?_
      rintro e w1 ⟨rfl, hb⟩
      have H1 := Lib.hid (H0.out.step hb); clear hb x0 x1 x2 x3 H0
      obtain ⟨x0, x1, x2, x3, _⟩ := H1.out.1
      go_wp2_with fail
      refine (HPR.out _).mono ?_
      rintro e w2 ⟨rfl, hb⟩
      have H2 := Lib.hid (H1.out.step hb); clear hb x0 x1 x2 x3 H1
      obtain ⟨x0, x1, x2, x3, _⟩ := H2.out.1
      go_wp2_with fail
      refine (HA.out _ H2.out.below).mono ?_
      rintro e w3 ⟨rfl, hb⟩
      have H3 := Lib.hid (H2.out.step hb); clear hb x0 x1 x2 x3 H2
      go_wp2_with fail
      go_ret
      exact ⟨by rw [HR.out]; rfl, H3.out.below⟩
    · have HR := Lib.hid (show loadV ns ls k p = .iface 170 (.agg #[]) from by unfold loadV okL; rw [hf, show inB p 0 1000 = false by simpa using hp]; rfl)
      rw [show inB p 0 1000 = false by simpa using hp] at HPR
      obtain ⟨A5, c5, rfl⟩ := prs_form2 g1
      obtain ⟨A6, c6, rfl⟩ := prs_form2 g2
      obtain ⟨A7, c7, rfl⟩ := faces_form g3
      obtain ⟨A8, c8, rfl⟩ := ints_form g4
      have H0 := Lib.hid (heldG w (.slice A5 (gN ns ls).length c5) (.slice A6 (gL ns ls).length c6) (.slice A7 (wF ns ls).length c7) (.slice A8 (gA ns ls).length c8) 98)
      clear hf hp hk g1 g2 g3 g4 HA
      generalize loadV ns ls (k : Int) p = res at *
      generalize gN ns ls = ns' at *
      generalize gL ns ls = ls' at *
      generalize gA ns ls = ds at *
      generalize wF ns ls = rs at *
      obtain ⟨x0, x1, x2, x3, _⟩ := H0.out.1
      go_enter Tryz.func77, Tryz.ntmps77
      go_wp2_with fail
      refine (HH.out _ _ _ _ _ _ _ _ _ _ _ _).mono ?_
      rintro e w1 ⟨rfl, hb⟩
      have H1 := Lib.hid (H0.out.step hb); clear hb x0 x1 x2 x3 H0
      go_wp2_with fail
      refine (HPR.out _).mono ?_
      rintro e w2 ⟨rfl, hb⟩
      have H2 := Lib.hid (H1.out.step hb); clear hb H1
      go_wp2_with fail
      go_ret
      exact ⟨by rw [HR.out]; rfl, H2.out.below⟩
  · have hff : idxB (wF ns ls).length f = false := by simpa using hf
    have HR := Lib.hid (show loadV ns ls f p = .iface 170 (.agg #[]) from by unfold loadV okL; rw [hff]; rfl)
    rw [hff] at HH
    obtain ⟨A5, c5, rfl⟩ := prs_form2 g1
    obtain ⟨A6, c6, rfl⟩ := prs_form2 g2
    obtain ⟨A7, c7, rfl⟩ := faces_form g3
    obtain ⟨A8, c8, rfl⟩ := ints_form g4
    have H0 := Lib.hid (heldG w (.slice A5 (gN ns ls).length c5) (.slice A6 (gL ns ls).length c6) (.slice A7 (wF ns ls).length c7) (.slice A8 (gA ns ls).length c8) 98)
    clear hf hff g1 g2 g3 g4 HPR
    generalize loadV ns ls f p = res at *
    generalize gN ns ls = ns' at *
    generalize gL ns ls = ls' at *
    generalize gA ns ls = ds at *
    generalize wF ns ls = rs at *
    obtain ⟨x0, x1, x2, x3, _⟩ := H0.out.1
    go_enter Tryz.func77, Tryz.ntmps77
    go_wp2_with fail
    refine (HH.out _ _ _ _ _ _ _ _ _ _ _ _).mono ?_
    rintro e w1 ⟨rfl, hb⟩
    have H1 := Lib.hid (H0.out.step hb); clear hb x0 x1 x2 x3 H0
    go_wp2_with fail
    go_ret
    exact ⟨by rw [HR.out]; rfl, H1.out.below⟩

end Go.Proofs.YtepacoacalhdcaaGreat

namespace Go.Proofs.YtepacoacalhdcaaGreat
open Go.RowKit
set_option linter.unusedVariables false
set_option linter.unusedSimpArgs false

noncomputable def bearB (ns ls : List Nd) (f p t : Int) : Bool := okL ns ls f p && (inB t 1 20 && decide (areaW ns ls f * p ≤ 500 * t * t))

theorem thick_bd {t : Int} (h : inB t 1 20 = true) : IntKind.i64.wrap (500 * t) = 500 * t ∧ IntKind.i64.wrap (500 * t * t) = 500 * t * t := by
  have ht : 1 ≤ t ∧ t ≤ 20 := by unfold inB at h; simp at h; omega
  have h1 : 0 ≤ 500 * t * t := Int.mul_nonneg (by omega) (by omega)
  have h2 : 500 * t * t ≤ 10000 * 20 := Int.mul_le_mul (by omega) (by omega) (by omega) (by omega)
  exact ⟨IntWalk.i64_in _ (by omega), IntWalk.i64_in _ (by omega)⟩

theorem implThick (p : Int) (w : World) : Calls Tryz.prog 73 #[.int .i64 p] w (BoolIs (inB p 1 20) w) := by
  by_cases h0 : 1 ≤ p
  · by_cases h1 : p ≤ 20
    · go_enter Tryz.func73, Tryz.ntmps73
      go_wp2_with fail
      go_ret
      exact ⟨ret_bool (by simp [inB, h0, h1]), Below.refl _ _⟩
    · go_enter Tryz.func73, Tryz.ntmps73
      go_wp2_with fail
      go_ret
      exact ⟨ret_bool (by simp [inB]; omega), Below.refl _ _⟩
  · go_enter Tryz.func73, Tryz.ntmps73
    go_wp2_with fail
    go_ret
    exact ⟨ret_bool (by simp [inB]; omega), Below.refl _ _⟩

theorem implGreatest (t : Int) (w : World) (h : inB t 1 20 = true) : Calls Tryz.prog 80 #[.int .i64 t] w (IntIs (500 * t * t) w) := by
  obtain ⟨h1, h2⟩ := thick_bd h
  clear h
  go_enter Tryz.func80, Tryz.ntmps80
  go_wp2_with fail
  go_ret
  exact ⟨rfl, Below.refl _ _⟩

theorem asWind (a p : Int) (w : World) : Sem.run Tryz.prog (Instr.typeAssert (.iface 168 (.agg #[.int .i64 a, .int .i64 p])) 103 168 true) w = .ok (.tuple #[.agg #[.int .i64 a, .int .i64 p], .bool true]) w := by kernel_rfl

theorem asNone (w : World) : Sem.run Tryz.prog (Instr.typeAssert (.iface 170 (.agg #[])) 103 168 true) w = .ok (.tuple #[.agg #[.int .i64 0, .int .i64 0], .bool false]) w := by kernel_rfl

set_option maxRecDepth 100000 in
theorem implBorneN (t : Int) (w : World) : Calls Tryz.prog 76 #[.iface 170 (.agg #[]), .int .i64 t] w (BoolIs false w) := by
  go_enter Tryz.func76, Tryz.ntmps76
  go_wp2_with fail
  simp only [asNone, Result.andThen_ok]
  go_wp2_with fail
  go_ret
  exact ⟨rfl, Below.refl _ _⟩

set_option maxRecDepth 100000 in
theorem implBorneW (a p t : Int) (w : World) (he : IntKind.i64.wrap (a * p) = a * p) : Calls Tryz.prog 76 #[.iface 168 (.agg #[.int .i64 a, .int .i64 p]), .int .i64 t] w (BoolIs (inB t 1 20 && decide (a * p ≤ 500 * t * t)) w) := by
  have HT := Lib.hid (implThick t)
  have HFO := Lib.hid (fun w => implForceW a p w he)
  unfold BoolIs at HT
  unfold IntIs at HFO
  clear he
  have H0 := Lib.hid ((Held.none_ w).new2 w.heap.size rfl [.int .i64 a, .int .i64 p] 168)
  by_cases ht : inB t 1 20 = true
  · have HG := Lib.hid (fun w => implGreatest t w ht)
    unfold IntIs at HG
    rw [ht] at HT ⊢
    clear ht
    generalize 500 * t * t = q at *
    generalize a * p = mp at *
    by_cases hq : mp ≤ q
    · have HR := Lib.hid (show (true && decide (mp ≤ q)) = true by simp [hq])
      generalize (true && decide (mp ≤ q)) = res at *
      go_enter Tryz.func76, Tryz.ntmps76
      go_wp2_with fail
      simp only [asWind, Result.andThen_ok]
      go_wp2_with fail
      refine (HT.out _).mono ?_
      rintro e w1 ⟨rfl, hb⟩
      have H1 := Lib.hid (H0.out.step hb); clear hb H0
      obtain ⟨x0, x1, _⟩ := H1.out.1
      go_wp2_with fail
      refine (HFO.out _).mono ?_
      rintro e w2 ⟨rfl, hb⟩
      have H2 := Lib.hid (H1.out.step hb); clear hb H1 x0 x1
      go_wp2_with fail
      refine (HG.out _).mono ?_
      rintro e w3 ⟨rfl, hb⟩
      have H3 := Lib.hid (H2.out.step hb); clear hb H2
      go_wp2_with fail
      go_ret
      exact ⟨ret_bool HR.out.symm, H3.out.below⟩
    · have HR := Lib.hid (show decide (mp ≤ q) = (true && decide (mp ≤ q)) by simp)
      generalize (true && decide (mp ≤ q)) = res at *
      go_enter Tryz.func76, Tryz.ntmps76
      go_wp2_with fail
      simp only [asWind, Result.andThen_ok]
      go_wp2_with fail
      refine (HT.out _).mono ?_
      rintro e w1 ⟨rfl, hb⟩
      have H1 := Lib.hid (H0.out.step hb); clear hb H0
      obtain ⟨x0, x1, _⟩ := H1.out.1
      go_wp2_with fail
      refine (HFO.out _).mono ?_
      rintro e w2 ⟨rfl, hb⟩
      have H2 := Lib.hid (H1.out.step hb); clear hb H1 x0 x1
      go_wp2_with fail
      refine (HG.out _).mono ?_
      rintro e w3 ⟨rfl, hb⟩
      have H3 := Lib.hid (H2.out.step hb); clear hb H2
      go_wp2_with fail
      go_ret
      exact ⟨ret_bool HR.out, H3.out.below⟩
  · rw [show inB t 1 20 = false by simpa using ht] at HT ⊢
    have HR := Lib.hid (show (false && decide (a * p ≤ 500 * t * t)) = false from rfl)
    generalize (false && decide (a * p ≤ 500 * t * t)) = res at *
    clear ht
    go_enter Tryz.func76, Tryz.ntmps76
    go_wp2_with fail
    simp only [asWind, Result.andThen_ok]
    go_wp2_with fail
    refine (HT.out _).mono ?_
    rintro e w1 ⟨rfl, hb⟩
    have H1 := Lib.hid (H0.out.step hb); clear hb H0
    go_wp2_with fail
    go_ret
    exact ⟨ret_bool HR.out.symm, H1.out.below⟩

end Go.Proofs.YtepacoacalhdcaaGreat

namespace Go.Proofs.YtepacoacalhdcaaGreat
open Go.RowKit
set_option linter.unusedVariables false
set_option linter.unusedSimpArgs false

noncomputable def thkP (ns ls : List Nd) (f p : Int) (k : Nat) : Bool := decide (1 ≤ k) && bearB ns ls f p k

noncomputable def thkW (ns ls : List Nd) (f p : Int) : Int := firstI (thkP ns ls f p) 21

end Go.Proofs.YtepacoacalhdcaaGreat
