/-
  Several texts in one: a claim has at most 60 files.
-/
import Derived.Test.YtepacoacalhdcaaGreatG42
import Derived.Test.YtepacoacalhdcaaGreatLst
import Derived.Test.YtepacoacalhdcaaGreatRec
import Derived.Test.YtepacoacalhdcaaGreatRoot
import Derived.Test.YtepacoacalhdcaaGreatJoint
import Derived.Test.YtepacoacalhdcaaGreatCto
import Derived.WalkMore

namespace Go.Proofs.YtepacoacalhdcaaGreat
open Go.RowKit
set_option linter.unusedVariables false
set_option linter.unusedSimpArgs false

/-- Can it be billed? -/
noncomputable def bilB (ns ls : List Nd) (t : Qd) (xs : List Int) : Bool := (wholeB ns ls && qdB t) && (lstB (wF ns ls).length xs && !(xs.contains (outW ns ls)))

noncomputable def bilW (ns ls : List Nd) (t : Qd) (xs : List Int) : Int := if bilB ns ls t xs = true then t.x * totalW ns ls + t.y * lengthI ns ls + t.z * jointI ns ls + t.u * sumA ns ls xs else -1

/-- The price of a face. -/
def prcF (t : Qd) (a : Int) (b : Bool) : Int := (if b = true then t.u * a else 0) + t.x * a

noncomputable def bilL (ns ls : List Nd) (t : Qd) (xs l : List Int) : Int := l.foldl (fun a x => a + prcF t (areaW ns ls x) (xs.contains x)) (t.y * lengthI ns ls + t.z * jointI ns ls)

theorem bilL_app (ns ls : List Nd) (t : Qd) (xs l : List Int) (x : Int) : bilL ns ls t xs (l ++ [x]) = bilL ns ls t xs l + prcF t (areaW ns ls x) (xs.contains x) := by unfold bilL; rw [List.foldl_append]; rfl

theorem LstP.lt {n : Nat} {xs : List Int} (h : LstP n xs) {i : Nat} : ∀ d, i + d + 1 < xs.length → atZ xs i < atZ xs (i + d + 1)
  | 0, hk => h.up i hk
  | d + 1, hk => by
    have := h.lt (i := i) d (by omega)
    have := h.up (i + d + 1) (by omega)
    rw [show i + (d + 1) + 1 = i + d + 1 + 1 by omega]
    omega

theorem LstP.nodup {n : Nat} {xs : List Int} (h : LstP n xs) : xs.Nodup := by
  refine List.pairwise_iff_getElem.2 fun i j hi hj hij => ?_
  rw [atZ_get hi, atZ_get hj]
  have := h.lt (i := i) (j - i - 1) (by omega)
  rw [show i + (j - i - 1) + 1 = j by omega] at this
  omega

theorem LstP.mem {n : Nat} {xs : List Int} (h : LstP n xs) {x : Int} (hx : x ∈ xs) : ∃ k : Nat, x = k ∧ k < n := by
  obtain ⟨i, hi, e⟩ := List.getElem_of_mem hx
  have := h.inr i hi
  rw [← atZ_get hi, e] at this
  exact ⟨x.toNat, by omega, by omega⟩

theorem painted_perm {n : Nat} {xs : List Int} {o : Int} (h : LstP n xs) (ho : xs.contains o = false) : xs.Perm (fltN (fun k => innP o k && xs.contains (k : Int)) n) := by
  refine (List.perm_ext_iff_of_nodup h.nodup ((fltN_asc _ _).imp fun h => by omega)).2 fun x => ?_
  rw [fltN_mem]
  constructor
  · intro hx
    obtain ⟨k, rfl, hk⟩ := h.mem hx
    refine ⟨k, rfl, hk, ?_⟩
    have hc : xs.contains (k : Int) = true := List.contains_iff_mem.2 hx
    have hne : (k : Int) ≠ o := fun e => by rw [e, ho] at hc; cases hc
    unfold innP
    rw [hc, show ((k : Int) == o) = false from beq_eq_false_iff_ne.2 hne]
    rfl
  · rintro ⟨k, rfl, hk, hq⟩
    simp only [Bool.and_eq_true] at hq
    exact List.contains_iff_mem.1 hq.2

theorem sumT_mulr (F : Nat → Int) (a : Int) (n : Nat) : a * sumT F n = sumT (fun k => a * F k) n := (sumT_mul a F n).symm

theorem bil_inn {ns ls : List Nd} {t : Qd} {xs : List Int} (h : bilB ns ls t xs = true) : bilL ns ls t xs (innW ns ls) = bilW ns ls t xs := by
  have h' := h
  unfold bilB at h'
  simp only [Bool.and_eq_true, Bool.not_eq_true'] at h'
  obtain ⟨⟨hh, hq⟩, hl, hc⟩ := h'
  have hl := (lstB_iff _ _).1 hl
  unfold bilW bilL
  rw [if_pos h, foldl_sumZ]
  have e1 := sumA_sumZ ns ls xs
  rw [sumZ_perm ((painted_perm hl hc).map (areaW ns ls)), sumZ_flt] at e1
  have e2 := innW_sum hh
  unfold innW at e2 ⊢
  rw [sumA_sumZ, sumZ_flt] at e2
  rw [e1, ← e2, sumZ_flt, sumT_mulr, sumT_mulr]
  have e3 := sumT_add (fun k => t.x * (if innP (outW ns ls) k = true then areaW ns ls (k : Int) else 0)) (fun k => t.u * (if (innP (outW ns ls) k && xs.contains (k : Int)) = true then areaW ns ls (k : Int) else 0)) (wF ns ls).length
  have e4 : sumT (fun k => if innP (outW ns ls) k = true then prcF t (areaW ns ls (k : Int)) (xs.contains (k : Int)) else 0) (wF ns ls).length = sumT (fun i => t.x * (if innP (outW ns ls) i = true then areaW ns ls (i : Int) else 0) + t.u * (if (innP (outW ns ls) i && xs.contains (i : Int)) = true then areaW ns ls (i : Int) else 0)) (wF ns ls).length := by
    refine sumT_congr _ fun k hk => ?_
    unfold prcF
    cases innP (outW ns ls) k <;> cases xs.contains (k : Int) <;> simp <;> omega
  omega

theorem sumA_bd {ns ls : List Nd} {n : Nat} : ∀ (l : List Int), (∀ x, x ∈ l → idxB (wF ns ls).length x = true) → 0 ≤ sumZ (l.map (areaW ns ls)) ∧ sumZ (l.map (areaW ns ls)) ≤ 16000 * l.length
  | [], _ => by simp [sumZ]
  | x :: t, h => by
    have h1 := area_nnB (h x (by simp))
    have h2 := sumA_bd (n := n) t fun y hy => h y (by simp [hy])
    simp only [List.map_cons, sumZ, List.length_cons]
    omega
end Go.Proofs.YtepacoacalhdcaaGreat

namespace Go.Proofs.YtepacoacalhdcaaGreat
open Go.RowKit
set_option linter.unusedVariables false
set_option linter.unusedSimpArgs false

theorem price_bd {p a : Int} (h1 : 0 ≤ p ∧ p ≤ 1000) (h2 : 0 ≤ a ∧ a ≤ 16000) : 0 ≤ p * a ∧ p * a ≤ 16000000 := by
  refine ⟨Int.mul_nonneg h1.1 h2.1, ?_⟩
  have := Int.mul_le_mul h1.2 h2.2 h2.1 (by omega)
  omega

theorem prcF_bd {t : Qd} {a : Int} {b : Bool} (ht : qdB t = true) (h2 : 0 ≤ a ∧ a ≤ 16000) : 0 ≤ prcF t a b ∧ prcF t a b ≤ 32000000 := by
  obtain ⟨q1, q2, q3, q4⟩ := (qdB_iff t).1 ht
  have p1 := price_bd q1 h2
  have p4 := price_bd q4 h2
  unfold prcF
  split <;> omega

set_option maxRecDepth 100000 in
set_option maxHeartbeats 1000000 in
theorem implPainted (ns ls : List Nd) (xs : List Int) (v1 v2 v3 v4 vx : Value) (B : Nat) (w : World) (g1 : Prs w v1 (gN ns ls)) (g2 : Prs w v2 (gL ns ls)) (g3 : Faces w B v3 (wF ns ls)) (g4 : Ints w B v4 (gA ns ls)) (hv : Seq w vx xs) (hxl : xs.length ≤ 1048576) :
    Calls Tryz.prog 101 #[.agg #[v1, v2, v3, v4], vx] w (BoolIs (lstB (wF ns ls).length xs && !(xs.contains (outW ns ls))) w) := by
  have h40 := wF_len (ns := ns) (ls := ls)
  have HS := Lib.hid (fun w hv => implLst (wF ns ls).length xs vx w hv (by omega))
  have HC := Lib.hid (fun w hv => containsQ (w := w) (v := vx) (xs := xs) (outW ns ls) hv hxl)
  unfold BoolIs at HS HC
  have HO := Lib.hid (fun v1 v2 v3 v4 B w h1 h2 h3 h4 => (show Calls Tryz.prog 91 #[.agg #[v1, v2, v3, v4]] w (IntIs (outW ns ls) w) from by
    have := implOuter (gN ns ls) (gL ns ls) v1 v2 v3 v4 (wF ns ls) (gA ns ls) B w h1 h2 h3 h4 (g_ok ns ls)
    rw [g_outer] at this
    exact this))
  unfold IntIs at HO
  have HV := Lib.hid hv
  have HG1 := Lib.hid g1
  have HG2 := Lib.hid g2
  have HG3 := Lib.hid g3
  have HG4 := Lib.hid g4
  obtain ⟨A, c1, rfl⟩ := prs_form2 g1
  obtain ⟨A2, c2, rfl⟩ := prs_form2 g2
  obtain ⟨A3, c3, rfl⟩ := faces_form g3
  obtain ⟨A4, c4, rfl⟩ := ints_form g4
  obtain ⟨A5, c5, rfl⟩ := seq_form2 hv
  clear g1 g2 g3 g4 hv hxl
  have H0 := Lib.hid (heldG w (.slice A (gN ns ls).length c1) (.slice A2 (gL ns ls).length c2) (.slice A3 (wF ns ls).length c3) (.slice A4 (gA ns ls).length c4) 98)
  generalize outW ns ls = o at *
  generalize gN ns ls = ns' at *
  generalize gL ns ls = ls' at *
  generalize gA ns ls = ds at *
  generalize wF ns ls = rs at *
  generalize lstB rs.length xs = d at *
  generalize xs.contains o = b at *
  go_enter Tryz.func101, Tryz.ntmps101
  obtain ⟨x0, x1, x2, x3, _⟩ := H0.out.1
  cases d
  · go_wp2_with fail
    refine (HS.out _ (HV.out.step H0.out.below)).mono ?_
    rintro e w1 ⟨rfl, hb⟩
    have H1 := Lib.hid (H0.out.step hb); clear hb
    go_wp2_with fail
    go_ret
    exact ⟨rfl, H1.out.below⟩
  · go_wp2_with fail
    refine (HS.out _ (HV.out.step H0.out.below)).mono ?_
    rintro e w1 ⟨rfl, hb⟩
    have H1 := Lib.hid (H0.out.step hb); clear hb x0 x1 x2 x3 H0
    obtain ⟨x0, x1, x2, x3, _⟩ := H1.out.1
    go_wp2_with fail
    refine (HO.out _ _ _ _ _ _ (HG1.out.step H1.out.below) (HG2.out.step H1.out.below) (HG3.out.step H1.out.below) (HG4.out.step H1.out.below)).mono ?_
    rintro e w2 ⟨rfl, hb⟩
    have H2 := Lib.hid (H1.out.step hb); clear hb x0 x1 x2 x3 H1
    go_wp2_with fail
    refine (HC.out _ (HV.out.step H2.out.below)).mono ?_
    rintro e w3 ⟨rfl, hb⟩
    have H3 := Lib.hid (H2.out.step hb); clear hb
    go_wp2_with fail
    go_ret
    exact ⟨rfl, H3.out.below⟩

set_option maxRecDepth 100000 in
set_option maxHeartbeats 1000000 in
theorem implPrice (t : Qd) (a : Int) (b : Bool) (w : World) (ht : qdB t = true) (ha : 0 ≤ a ∧ a ≤ 16000) :
    Calls Tryz.prog 104 #[t.val, .int .i64 a, .bool b] w (IntIs (prcF t a b) w) := by
  obtain ⟨q1, q2, q3, q4⟩ := (qdB_iff t).1 ht
  have p1 := price_bd q1 ha
  have p4 := price_bd q4 ha
  have H0 := Lib.hid (heldQ1 w t 55)
  have HR := Lib.hid (show prcF t a b = (if b = true then t.u * a else 0) + t.x * a from rfl)
  obtain ⟨x, y, z, u⟩ := t
  unfold Qd.val
  simp only at H0 HR p1 p4 q1 q2 q3 q4
  have e1 : IntKind.i64.wrap (x * a) = x * a := IntWalk.i64_in _ (by omega)
  have e2 : IntKind.i64.wrap (u * a) = u * a := IntWalk.i64_in _ (by omega)
  have f1 : wrap64 (x * a) = x * a := IntWalk.wrap64_in _ (by omega)
  have f2 : wrap64 (u * a) = u * a := IntWalk.wrap64_in _ (by omega)
  have f3 : wrap64 (u * a + x * a) = u * a + x * a := IntWalk.wrap64_in _ (by omega)
  generalize prcF ⟨x, y, z, u⟩ a b = res at *
  clear ht e1 e2
  go_enter Tryz.func104, Tryz.ntmps104
  obtain ⟨x0, x1, x2, x3, _⟩ := H0.out.1
  cases b
  · go_wp2_with fail
    go_ret
    exact ⟨ret_int (by rw [HR.out]; simp [f1]), H0.out.below⟩
  · go_wp2_with fail
    go_ret
    exact ⟨ret_int (by rw [HR.out]; simp [f1, f2, f3]), H0.out.below⟩

theorem sumZ_bd {f : Int → Int} {c : Int} : ∀ (l : List Int), (∀ x, x ∈ l → 0 ≤ f x ∧ f x ≤ c) → 0 ≤ sumZ (l.map f) ∧ sumZ (l.map f) ≤ c * l.length
  | [], _ => by simp [sumZ]
  | x :: t, h => by
    have h1 := h x (by simp)
    have h2 := sumZ_bd t fun y hy => h y (by simp [hy])
    simp only [List.map_cons, sumZ, List.length_cons, Int.natCast_succ, Int.mul_add]
    omega

theorem bill_base {ns ls : List Nd} {t : Qd} (hh : wholeB ns ls = true) (ht : qdB t = true) : (0 ≤ lengthI ns ls ∧ lengthI ns ls ≤ 780) ∧ (0 ≤ jointI ns ls ∧ jointI ns ls ≤ 12) ∧ (0 ≤ t.y * lengthI ns ls ∧ t.y * lengthI ns ls ≤ 780000) ∧ (0 ≤ t.z * jointI ns ls ∧ t.z * jointI ns ls ≤ 12000) := by
  obtain ⟨hw, hl0, h20, h12⟩ := whole_win hh
  obtain ⟨q1, q2, q3, q4⟩ := (qdB_iff t).1 ht
  have l1 := lenR_le ns ls ls.length
  have a1 : lengthI ns ls = ((lenR ns ls ls.length : Nat) : Int) := if_pos hw
  have a2 : jointI ns ls = ((cntJ ns ls ns.length : Nat) : Int) := if_pos hw
  have a3 := cntJ_le ns ls ns.length
  have b1 : 0 ≤ lengthI ns ls ∧ lengthI ns ls ≤ 780 := by rw [a1]; omega
  have b2 : 0 ≤ jointI ns ls ∧ jointI ns ls ≤ 12 := by rw [a2]; omega
  refine ⟨b1, b2, ⟨Int.mul_nonneg q2.1 b1.1, ?_⟩, ⟨Int.mul_nonneg q3.1 b2.1, ?_⟩⟩
  · have := Int.mul_le_mul q2.2 b1.2 b1.1 (by omega); omega
  · have := Int.mul_le_mul q3.2 b2.2 b2.1 (by omega); omega

theorem bilL_bd {ns ls : List Nd} {t : Qd} {xs : List Int} (hh : wholeB ns ls = true) (ht : qdB t = true) (m : Nat) : 0 ≤ bilL ns ls t xs ((innW ns ls).take m) ∧ bilL ns ls t xs ((innW ns ls).take m) ≤ 400000000 := by
  obtain ⟨-, -, h3, h4⟩ := bill_base hh ht
  have h12 : (innW ns ls).length ≤ 12 := inn_twelve ns ls
  have hb := sumZ_bd (f := fun x => prcF t (areaW ns ls x) (xs.contains x)) (c := 32000000) ((innW ns ls).take m) fun x hx => by
    obtain ⟨i, hi, e⟩ := List.getElem_of_mem (List.mem_of_mem_take hx)
    obtain ⟨k, a1, a2, -, a3, a4⟩ := inn_at hi
    rw [← atZ_get hi, e] at a1
    rw [a1]
    exact prcF_bd ht ⟨by omega, a4⟩
  have hl : ((innW ns ls).take m).length ≤ 12 := Nat.le_trans (List.length_take_le' _ _) h12
  unfold bilL
  rw [foldl_sumZ]
  omega

set_option maxRecDepth 100000 in
set_option maxHeartbeats 8000000 in
theorem implBill (ns ls : List Nd) (xs : List Int) (t : Qd) (vn vl v : Value) (w : World) (hn : Prs w vn ns) (hl : Prs w vl ls) (hv : Seq w v xs) (hxl : xs.length ≤ 1048576) :
    Calls Tryz.prog 40 #[.agg #[vn, vl], t.val, v] w (IntIs (bilW ns ls t xs) w) := by
  have HGL := Lib.hid (fun w h1 h2 => implGlass ns ls vn vl w h1 h2)
  unfold GlassNew at HGL
  have HTF := Lib.hid (fun w => implTariff t w)
  unfold BoolIs at HTF
  have HPA := Lib.hid (fun v1 v2 v3 v4 B w h1 h2 h3 h4 h5 => implPainted ns ls xs v1 v2 v3 v4 v B w h1 h2 h3 h4 h5 hxl)
  unfold BoolIs at HPA
  have HBB := Lib.hid (show bilB ns ls t xs = ((wholeB ns ls && qdB t) && (lstB (wF ns ls).length xs && !(xs.contains (outW ns ls)))) from rfl)
  have HNO := Lib.hid (fun (h : bilB ns ls t xs = false) => (show bilW ns ls t xs = -1 from if_neg (by rw [h]; simp)))
  have HYE := Lib.hid (fun (h : bilB ns ls t xs = true) => bil_inn h)
  have HLL := Lib.hid (fun w h1 h2 => implLeadLen ns ls vn vl w h1 h2)
  have HJJ := Lib.hid (fun w h1 h2 => implJoint ns ls vn vl w h1 h2)
  unfold IntIs at HLL HJJ
  have HIN := Lib.hid (fun v1 v2 v3 v4 B w h1 h2 h3 h4 => implInnG ns ls v1 v2 v3 v4 B w h1 h2 h3 h4)
  unfold IntsNew at HIN
  have HAR := Lib.hid (fun k hk v1 v2 v3 v4 B w h1 h2 h3 h4 => implAreaG ns ls k hk v1 v2 v3 v4 B w h1 h2 h3 h4)
  unfold IntIs at HAR
  have HAT := Lib.hid (fun i (hi : i < (innW ns ls).length) => inn_at hi)
  have HCO := Lib.hid (fun (x : Int) w hv => containsQ (w := w) (v := v) (xs := xs) x hv hxl)
  unfold BoolIs at HCO
  have HBA := Lib.hid (fun (h : wholeB ns ls = true) (h2 : qdB t = true) => bill_base h h2)
  have HBL := Lib.hid (fun (h : wholeB ns ls = true) (h2 : qdB t = true) m => bilL_bd (xs := xs) h h2 m)
  have HPR := Lib.hid (fun (h2 : qdB t = true) (a : Int) (b : Bool) w (ha : 0 ≤ a ∧ a ≤ 16000) => implPrice t a b w h2 ha)
  unfold IntIs at HPR
  have HPB := Lib.hid (fun (h2 : qdB t = true) (a : Int) (b : Bool) (ha : 0 ≤ a ∧ a ≤ 16000) => prcF_bd (b := b) h2 ha)
  have HTK := Lib.hid (fun m (hm : m < (innW ns ls).length) => (show bilL ns ls t xs ((innW ns ls).take (m + 1)) = bilL ns ls t xs ((innW ns ls).take m) + prcF t (areaW ns ls (atZ (innW ns ls) m)) (xs.contains (atZ (innW ns ls) m)) from by
    rw [List.take_succ_eq_append_getElem hm, bilL_app, atZ_get hm]))
  have HT0 := Lib.hid (show bilL ns ls t xs ((innW ns ls).take 0) = t.y * lengthI ns ls + t.z * jointI ns ls from rfl)
  have HTE := Lib.hid (show bilL ns ls t xs ((innW ns ls).take (innW ns ls).length) = bilL ns ls t xs (innW ns ls) from by rw [List.take_length])
  have hilen := innW_len ns ls
  have HN := Lib.hid hn
  have HL := Lib.hid hl
  have HV := Lib.hid hv
  have H0 := Lib.hid ((held_pair w vn vl 32).new2 (w.heap.size + 1) (by simp) [.int .i64 t.x, .int .i64 t.y, .int .i64 t.z, .int .i64 t.u] 55)
  simp only [newFs, List.cons_append, List.nil_append, List.append_nil] at H0
  obtain ⟨A, c, rfl⟩ := prs_form2 hn
  obtain ⟨A2, c2, rfl⟩ := prs_form2 hl
  obtain ⟨A3, c3, rfl⟩ := seq_form2 hv
  clear hn hl hv
  obtain ⟨FB, hFB⟩ : ∃ FB : Nat → Int, (fun m => bilL ns ls t xs ((innW ns ls).take m)) = FB := ⟨_, rfl⟩
  have HFB := Lib.hid (fun m => (show bilL ns ls t xs ((innW ns ls).take m) = FB m from by rw [← hFB])); clear hFB
  simp only [HFB.out] at HTK HT0 HTE HBL
  clear HFB
  generalize bilL ns ls t xs (innW ns ls) = fin at *
  generalize bilW ns ls t xs = res at *
  generalize bilB ns ls t xs = bb at *
  generalize (lstB (wF ns ls).length xs && !(xs.contains (outW ns ls))) = pb at *
  generalize prcF t = PF at *
  generalize lengthI ns ls = LEN at *
  generalize jointI ns ls = JN at *
  generalize areaW ns ls = AR at *
  generalize innP (outW ns ls) = IP at *
  generalize innW ns ls = X at *
  generalize gN ns ls = ns' at *
  generalize gL ns ls = ls' at *
  generalize gA ns ls = ds at *
  generalize wF ns ls = rs at *
  generalize wholeB ns ls = ok at *
  generalize qdB t = tq at *
  obtain ⟨x, y, z, u⟩ := t
  unfold Qd.val at HTF HPR ⊢
  simp only at H0 HTF HPR HT0 HBA ⊢
  cases ok
  · have HB := Lib.hid (show bb = false from by rw [HBB.out]; rfl)
    have HF := Lib.hid (HNO.out HB.out)
    go_enter Tryz.func40, Tryz.ntmps40
    obtain ⟨x0, x1, x2, x3, x4, x5, _⟩ := H0.out.1
    go_wp2_with fail
    refine (HGL.out _ (HN.out.step H0.out.below) (HL.out.step H0.out.below)).mono ?_
    rintro e w1 ⟨v1, v2, v3, v4, rfl, g1, g2, g3, g4, hb⟩
    have H1 := Lib.hid (H0.out.step hb)
    have bg := below_alloc w1 (.cells #[v1, v2, v3, v4] 98)
    have H2 := Lib.hid (H1.out.new2 w1.heap.size rfl [v1, v2, v3, v4] 98)
    have G1 := Lib.hid (g1.step bg)
    have G2 := Lib.hid (g2.step bg)
    have G3 := Lib.hid (g3.step bg)
    have G4 := Lib.hid (g4.step bg)
    obtain ⟨A5, c5, rfl⟩ := prs_form2 g1
    obtain ⟨A6, c6, rfl⟩ := prs_form2 g2
    obtain ⟨A7, c7, rfl⟩ := faces_form g3
    obtain ⟨A8, c8, rfl⟩ := ints_form g4
    clear hb g1 g2 g3 g4 x0 x1 x2 x3 x4 x5 H0 H1 bg
    simp only [newFs, List.cons_append, List.nil_append, List.append_nil] at H2
    obtain ⟨x0, x1, x2, x3, x4, x5, x6, x7, x8, x9, _⟩ := H2.out.1
    go_wp2_with fail
    go_ret
    exact ⟨ret_int HF.out.symm, H2.out.below⟩
  · cases tq
    · have HB := Lib.hid (show bb = false from by rw [HBB.out]; rfl)
      have HF := Lib.hid (HNO.out HB.out)
      go_enter Tryz.func40, Tryz.ntmps40
      obtain ⟨x0, x1, x2, x3, x4, x5, _⟩ := H0.out.1
      go_wp2_with fail
      refine (HGL.out _ (HN.out.step H0.out.below) (HL.out.step H0.out.below)).mono ?_
      rintro e w1 ⟨v1, v2, v3, v4, rfl, g1, g2, g3, g4, hb⟩
      have H1 := Lib.hid (H0.out.step hb)
      have bg := below_alloc w1 (.cells #[v1, v2, v3, v4] 98)
      have H2 := Lib.hid (H1.out.new2 w1.heap.size rfl [v1, v2, v3, v4] 98)
      have G1 := Lib.hid (g1.step bg)
      have G2 := Lib.hid (g2.step bg)
      have G3 := Lib.hid (g3.step bg)
      have G4 := Lib.hid (g4.step bg)
      obtain ⟨A5, c5, rfl⟩ := prs_form2 g1
      obtain ⟨A6, c6, rfl⟩ := prs_form2 g2
      obtain ⟨A7, c7, rfl⟩ := faces_form g3
      obtain ⟨A8, c8, rfl⟩ := ints_form g4
      clear hb g1 g2 g3 g4 x0 x1 x2 x3 x4 x5 H0 H1 bg
      simp only [newFs, List.cons_append, List.nil_append, List.append_nil] at H2
      obtain ⟨x0, x1, x2, x3, x4, x5, x6, x7, x8, x9, _⟩ := H2.out.1
      go_wp2_with fail
      refine (HTF.out _).mono ?_
      rintro e w2 ⟨rfl, hb⟩
      have H3 := Lib.hid (H2.out.step hb)
      have G1 := Lib.hid (G1.out.step hb)
      have G2 := Lib.hid (G2.out.step hb)
      have G3 := Lib.hid (G3.out.step hb)
      have G4 := Lib.hid (G4.out.step hb)
      clear hb x0 x1 x2 x3 x4 x5 x6 x7 x8 x9 H2
      obtain ⟨x0, x1, x2, x3, x4, x5, x6, x7, x8, x9, _⟩ := H3.out.1
      go_wp2_with fail
      go_ret
      exact ⟨ret_int HF.out.symm, H3.out.below⟩
    · cases pb
      · have HB := Lib.hid (show bb = false from by rw [HBB.out]; rfl)
        have HF := Lib.hid (HNO.out HB.out)
        go_enter Tryz.func40, Tryz.ntmps40
        obtain ⟨x0, x1, x2, x3, x4, x5, _⟩ := H0.out.1
        go_wp2_with fail
        refine (HGL.out _ (HN.out.step H0.out.below) (HL.out.step H0.out.below)).mono ?_
        rintro e w1 ⟨v1, v2, v3, v4, rfl, g1, g2, g3, g4, hb⟩
        have H1 := Lib.hid (H0.out.step hb)
        have bg := below_alloc w1 (.cells #[v1, v2, v3, v4] 98)
        have H2 := Lib.hid (H1.out.new2 w1.heap.size rfl [v1, v2, v3, v4] 98)
        have G1 := Lib.hid (g1.step bg)
        have G2 := Lib.hid (g2.step bg)
        have G3 := Lib.hid (g3.step bg)
        have G4 := Lib.hid (g4.step bg)
        obtain ⟨A5, c5, rfl⟩ := prs_form2 g1
        obtain ⟨A6, c6, rfl⟩ := prs_form2 g2
        obtain ⟨A7, c7, rfl⟩ := faces_form g3
        obtain ⟨A8, c8, rfl⟩ := ints_form g4
        clear hb g1 g2 g3 g4 x0 x1 x2 x3 x4 x5 H0 H1 bg
        simp only [newFs, List.cons_append, List.nil_append, List.append_nil] at H2
        obtain ⟨x0, x1, x2, x3, x4, x5, x6, x7, x8, x9, _⟩ := H2.out.1
        go_wp2_with fail
        refine (HTF.out _).mono ?_
        rintro e w2 ⟨rfl, hb⟩
        have H3 := Lib.hid (H2.out.step hb)
        have G1 := Lib.hid (G1.out.step hb)
        have G2 := Lib.hid (G2.out.step hb)
        have G3 := Lib.hid (G3.out.step hb)
        have G4 := Lib.hid (G4.out.step hb)
        clear hb x0 x1 x2 x3 x4 x5 x6 x7 x8 x9 H2
        obtain ⟨x0, x1, x2, x3, x4, x5, x6, x7, x8, x9, _⟩ := H3.out.1
        go_wp2_with fail
        refine (HPA.out _ _ _ _ _ _ G1.out G2.out G3.out G4.out (HV.out.step H3.out.below)).mono ?_
        rintro e w3 ⟨rfl, hb⟩
        have H4 := Lib.hid (H3.out.step hb)
        have G1 := Lib.hid (G1.out.step hb)
        have G2 := Lib.hid (G2.out.step hb)
        have G3 := Lib.hid (G3.out.step hb)
        have G4 := Lib.hid (G4.out.step hb)
        clear hb x0 x1 x2 x3 x4 x5 x6 x7 x8 x9 H3
        obtain ⟨x0, x1, x2, x3, x4, x5, x6, x7, x8, x9, _⟩ := H4.out.1
        go_wp2_with fail
        go_ret
        exact ⟨ret_int HF.out.symm, H4.out.below⟩
      · have HB := Lib.hid (show bb = true from by rw [HBB.out]; rfl)
        have HRES := Lib.hid (HYE.out HB.out)
        obtain ⟨hle, hjn, hyl, hzj⟩ := HBA.out rfl rfl
        replace HBL := Lib.hid (HBL.out rfl rfl)
        replace HPR := Lib.hid (HPR.out rfl)
        replace HPB := Lib.hid (HPB.out rfl)
        clear HYE HNO HBA HBB
        have e1 : IntKind.i64.wrap (y * LEN) = y * LEN := IntWalk.i64_in _ (by omega)
        have e2 : IntKind.i64.wrap (z * JN) = z * JN := IntWalk.i64_in _ (by omega)
        have e3 : IntKind.i64.wrap (y * LEN + z * JN) = y * LEN + z * JN := IntWalk.i64_in _ (by omega)
        go_enter Tryz.func40, Tryz.ntmps40
        obtain ⟨x0, x1, x2, x3, x4, x5, _⟩ := H0.out.1
        go_wp2_with fail
        refine (HGL.out _ (HN.out.step H0.out.below) (HL.out.step H0.out.below)).mono ?_
        rintro e w1 ⟨v1, v2, v3, v4, rfl, g1, g2, g3, g4, hb⟩
        have H1 := Lib.hid (H0.out.step hb)
        have bg := below_alloc w1 (.cells #[v1, v2, v3, v4] 98)
        have H2 := Lib.hid (H1.out.new2 w1.heap.size rfl [v1, v2, v3, v4] 98)
        have G1 := Lib.hid (g1.step bg)
        have G2 := Lib.hid (g2.step bg)
        have G3 := Lib.hid (g3.step bg)
        have G4 := Lib.hid (g4.step bg)
        obtain ⟨A5, c5, rfl⟩ := prs_form2 g1
        obtain ⟨A6, c6, rfl⟩ := prs_form2 g2
        obtain ⟨A7, c7, rfl⟩ := faces_form g3
        obtain ⟨A8, c8, rfl⟩ := ints_form g4
        clear hb g1 g2 g3 g4 x0 x1 x2 x3 x4 x5 H0 H1 bg
        simp only [newFs, List.cons_append, List.nil_append, List.append_nil] at H2
        obtain ⟨x0, x1, x2, x3, x4, x5, x6, x7, x8, x9, _⟩ := H2.out.1
        go_wp2_with fail
        refine (HTF.out _).mono ?_
        rintro e w2 ⟨rfl, hb⟩
        have H3 := Lib.hid (H2.out.step hb)
        have G1 := Lib.hid (G1.out.step hb)
        have G2 := Lib.hid (G2.out.step hb)
        have G3 := Lib.hid (G3.out.step hb)
        have G4 := Lib.hid (G4.out.step hb)
        clear hb x0 x1 x2 x3 x4 x5 x6 x7 x8 x9 H2
        obtain ⟨x0, x1, x2, x3, x4, x5, x6, x7, x8, x9, _⟩ := H3.out.1
        go_wp2_with fail
        refine (HPA.out _ _ _ _ _ _ G1.out G2.out G3.out G4.out (HV.out.step H3.out.below)).mono ?_
        rintro e w3 ⟨rfl, hb⟩
        have H4 := Lib.hid (H3.out.step hb)
        have G1 := Lib.hid (G1.out.step hb)
        have G2 := Lib.hid (G2.out.step hb)
        have G3 := Lib.hid (G3.out.step hb)
        have G4 := Lib.hid (G4.out.step hb)
        clear hb x0 x1 x2 x3 x4 x5 x6 x7 x8 x9 H3
        obtain ⟨x0, x1, x2, x3, x4, x5, x6, x7, x8, x9, _⟩ := H4.out.1
        have HN4 := Lib.hid (HN.out.step H4.out.below)
        have HL4 := Lib.hid (HL.out.step H4.out.below)
        have HV4 := Lib.hid (HV.out.step H4.out.below)
        have S4 := Lib.hid (Held.start H4.out.1 H4.out.2.1)
        have B4 := Lib.hid H4.out.below
        go_wp2_with fail
        clear x0 x1 x2 x3 x4 x5 x6 x7 x8 x9 H4
        refine regionD (S := fun W => Held _ W [(w1.heap.size, 0, .slice A5 ns'.length c5), (w1.heap.size, 1, .slice A6 ls'.length c6), (w1.heap.size, 2, .slice A7 rs.length c7), (w1.heap.size, 3, .slice A8 ds.length c8), (w.heap.size + 1, 0, .int .i64 (x)), (w.heap.size + 1, 1, .int .i64 (y)), (w.heap.size + 1, 2, .int .i64 (z)), (w.heap.size + 1, 3, .int .i64 (u)), (w.heap.size, 0, .slice A ns.length c), (w.heap.size, 1, .slice A2 ls.length c2)]) (by kernel_rfl) S4.out.drew ?_
        iterate 12 (refine takeT (v := ?_) rfl (by kernel_rfl) (by kernel_rfl) (by kernel_rfl) ?_ ?_; rotate_left; (first | (refine Or.inr ⟨by rfl, ?_⟩; with_reducible rfl) | (refine Or.inl ⟨by rfl, fun W hS => detRes_value (w' := W) ?_ hS⟩; obtain ⟨x0, x1, x2, x3, x4, x5, x6, x7, x8, x9, _⟩ := hS.1; go_simp; first | done | with_reducible rfl) | (refine Or.inl ⟨by rfl, fun W hS => ?_⟩; refine detRes_call (w' := W) (f := ?_) (args := ?_) ?_ ?_; rotate_left 2; (go_simp; (refine ⟨?_, ?_⟩ <;> with_reducible rfl)); (first | (with_reducible refine (HLL.out _ (HN4.out.step hS.below) (HL4.out.step hS.below)).mono ?_) | (with_reducible refine (HJJ.out _ (HN4.out.step hS.below) (HL4.out.step hS.below)).mono ?_) | fail); (first | (rintro e wn ⟨rfl, hb⟩; refine ⟨?_, hS.step hb⟩; with_reducible rfl) | (rintro e wn ⟨rfl, rfl⟩; refine ⟨?_, hS⟩; with_reducible rfl) | fail)) | fail); (simp only [Act.put, List.setIfInBounds_toArray, List.set_cons_zero, List.set_cons_succ]))
        refine doneD (by kernel_rfl) fun wH5 HS => ?_
        have H5 := Lib.hid HS; clear HS
        try clear x0 x1 x2 x3 x4 x5 x6 x7 x8 x9
        obtain ⟨x0, x1, x2, x3, x4, x5, x6, x7, x8, x9, _⟩ := H5.out.1
        go_wp2_with fail
        refine (HIN.out _ _ _ _ _ _ (G1.out.step H5.out.below) (G2.out.step H5.out.below) (G3.out.step H5.out.below) (G4.out.step H5.out.below)).mono ?_
        rintro e w6 ⟨vi, rfl, hm, hb⟩
        have S6 := Lib.hid (H5.out.step hb)
        have G1 := Lib.hid (G1.out.step S6.out.below)
        have G2 := Lib.hid (G2.out.step S6.out.below)
        have G3 := Lib.hid (G3.out.step S6.out.below)
        have G4 := Lib.hid (G4.out.step S6.out.below)
        have HV6 := Lib.hid (HV4.out.step S6.out.below)
        have B6 := Lib.hid (B4.out.trans (S6.out.below.mono B4.out.size))
        have S6 := Lib.hid (Held.start S6.out.1 S6.out.2.1)
        obtain ⟨ai, ci, rfl⟩ := ints_form hm
        have HLB := Lib.hid hm
        clear hm hb x0 x1 x2 x3 x4 x5 x6 x7 x8 x9 S4 H5 HN4 HL4 HV4 B4 hyl hzj hle hjn e1 e2 e3
        go_wp2_with fail
        go_loopw [9, 44] (fun o i wr => ∃ m : Nat, m ≤ X.length ∧ i = .int .i64 m ∧ o = .int .i64 (FB m) ∧ Held w6 wr [(w1.heap.size, 0, .slice A5 ns'.length c5), (w1.heap.size, 1, .slice A6 ls'.length c6), (w1.heap.size, 2, .slice A7 rs.length c7), (w1.heap.size, 3, .slice A8 ds.length c8), (w.heap.size + 1, 0, .int .i64 x), (w.heap.size + 1, 1, .int .i64 y), (w.heap.size + 1, 2, .int .i64 z), (w.heap.size + 1, 3, .int .i64 u), (w.heap.size, 0, .slice A ns.length c), (w.heap.size, 1, .slice A2 ls.length c2)]) (fun _ i _ => X.length - (intOf i).toNat)
        case atStart => exact ⟨0, Nat.zero_le _, rfl, by rw [HT0.out], S6.out⟩
        case round =>
          clear S6
          obtain ⟨m, hm, rfl, rfl, hh⟩ := hrel
          have H1 := Lib.hid hh; clear hh
          by_cases hlt : m < X.length
          · obtain ⟨gl, cl, el⟩ := HLB.out.some_ (by omega)
            simp only [Value.slice.injEq] at el
            obtain ⟨rfl, -, -⟩ := el
            obtain ⟨c0, -, hgl0, -, -⟩ := (HLB.out.step H1.out.below).at_ (j := m) hlt
            obtain ⟨k, hk, hkl, -, k0, k1⟩ := HAT.out m hlt
            have HTM := Lib.hid (HTK.out m hlt)
            rw [hk] at c0 HTM
            clear hk
            have HARk := Lib.hid (HAR.out k hkl)
            have HCk := Lib.hid (HCO.out (k : Int))
            obtain ⟨b1, b2⟩ := HBL.out m
            generalize AR (k : Int) = ar at *
            generalize xs.contains (k : Int) = cb at *
            have HPk := Lib.hid (fun w => HPR.out ar cb w (by omega))
            obtain ⟨b3, b4⟩ := HPB.out ar cb (by omega)
            generalize PF ar cb = pr at *
            have p3 : (0 : Int) ≤ m := by omega
            have p4 : (m : Int) < (X.length : Int) := by omega
            generalize FB m = fm at *
            have e1 : IntKind.i64.wrap (fm + pr) = fm + pr := IntWalk.i64_in _ (by omega)
            obtain ⟨x0, x1, x2, x3, x4, x5, x6, x7, x8, x9, _⟩ := H1.out.1
            go_wp2_with fail
            clear x0 x1 x2 x3 x4 x5 x6 x7 x8 x9
            refine regionD (S := fun W => Held _ W [(w1.heap.size, 0, .slice A5 ns'.length c5), (w1.heap.size, 1, .slice A6 ls'.length c6), (w1.heap.size, 2, .slice A7 rs.length c7), (w1.heap.size, 3, .slice A8 ds.length c8), (w.heap.size + 1, 0, .int .i64 (x)), (w.heap.size + 1, 1, .int .i64 (y)), (w.heap.size + 1, 2, .int .i64 (z)), (w.heap.size + 1, 3, .int .i64 (u)), (w.heap.size, 0, .slice A ns.length c), (w.heap.size, 1, .slice A2 ls.length c2)]) (by kernel_rfl) H1.out.drew ?_
            iterate 11 (refine takeT (v := ?_) rfl (by kernel_rfl) (by kernel_rfl) (by kernel_rfl) ?_ ?_; rotate_left; (first | (refine Or.inr ⟨by rfl, ?_⟩; with_reducible rfl) | (refine Or.inl ⟨by rfl, fun W hS => detRes_value (w' := W) ?_ hS⟩; obtain ⟨x0, x1, x2, x3, x4, x5, x6, x7, x8, x9, _⟩ := hS.1; go_simp; first | done | with_reducible rfl) | (refine Or.inl ⟨by rfl, fun W hS => ?_⟩; refine detRes_call (w' := W) (f := ?_) (args := ?_) ?_ ?_; rotate_left 2; (go_simp; (refine ⟨?_, ?_⟩ <;> with_reducible rfl)); (first | (with_reducible refine (HARk.out _ _ _ _ _ _ (G1.out.step hS.below) (G2.out.step hS.below) (G3.out.step hS.below) (G4.out.step hS.below)).mono ?_) | (with_reducible refine (HCk.out _ (HV6.out.step hS.below)).mono ?_) | (with_reducible refine (HPk.out _).mono ?_) | fail); (first | (rintro e wn ⟨rfl, hb⟩; refine ⟨?_, hS.step hb⟩; with_reducible rfl) | (rintro e wn ⟨rfl, rfl⟩; refine ⟨?_, hS⟩; with_reducible rfl) | fail)) | fail); (simp only [Act.put, List.setIfInBounds_toArray, List.set_cons_zero, List.set_cons_succ]))
            refine doneD (by kernel_rfl) fun wH2 HS => ?_
            have H2 := Lib.hid HS; clear HS
            try clear x0 x1 x2 x3 x4 x5 x6 x7 x8 x9
            obtain ⟨x0, x1, x2, x3, x4, x5, x6, x7, x8, x9, _⟩ := H2.out.1
            go_wp2_with fail
            exact ⟨⟨m + 1, by omega, by go_num, by rw [HTM.out], H2.out⟩, by simp [intOf]; omega⟩
          · obtain rfl : m = X.length := by omega
            go_wp2_with fail
            go_ret
            exact ⟨ret_int (by rw [HTE.out, HRES.out]), B6.out.trans (H1.out.below.mono B6.out.size)⟩
end Go.Proofs.YtepacoacalhdcaaGreat

namespace Go.Proofs.YtepacoacalhdcaaGreat
open Go.RowKit
set_option linter.unusedVariables false
set_option linter.unusedSimpArgs false

/-- The bill with the first m painted faces. -/
noncomputable def bilS (ns ls : List Nd) (t : Qd) (xs : List Int) (m : Nat) : Int := t.x * totalW ns ls + t.y * lengthI ns ls + t.z * jointI ns ls + t.u * sumA ns ls (xs.take m)

theorem bilS_succ {ns ls : List Nd} {t : Qd} {xs : List Int} {m : Nat} (h : m < xs.length) : bilS ns ls t xs (m + 1) = bilS ns ls t xs m + t.u * areaW ns ls (atZ xs m) := by
  unfold bilS
  rw [List.take_succ_eq_append_getElem h, sumA_app, atZ_get h, Int.mul_add]
  omega

theorem bilS_zero (ns ls : List Nd) (t : Qd) (xs : List Int) : bilS ns ls t xs 0 = t.x * totalW ns ls + t.y * lengthI ns ls + t.z * jointI ns ls := by
  unfold bilS
  rw [List.take_zero, sumA_nil]
  omega

theorem bilS_bd {ns ls : List Nd} {t : Qd} {xs : List Int} (hh : wholeB ns ls = true) (ht : qdB t = true) (hl : LstP (wF ns ls).length xs) (m : Nat) : 0 ≤ bilS ns ls t xs m ∧ bilS ns ls t xs m ≤ 400000000 := by
  obtain ⟨-, -, h3, h4⟩ := bill_base hh ht
  obtain ⟨q1, q2, q3, q4⟩ := (qdB_iff t).1 ht
  have h13 := wF_thirteen ns ls
  have hxl := hl.len
  have htt := totalW_nn hh
  have h5 := price_bd q1 htt
  have h6 := sumA_bd (n := 0) (ns := ns) (ls := ls) (xs.take m) fun x hx => by
    obtain ⟨k, rfl, hk⟩ := hl.mem (List.mem_of_mem_take hx)
    exact (idxB_iff _ _).2 (by omega)
  have h7 : (xs.take m).length ≤ 13 := Nat.le_trans (List.length_take_le' _ _) (by omega)
  rw [← sumA_sumZ] at h6
  have h8 : 0 ≤ t.u * sumA ns ls (xs.take m) := Int.mul_nonneg q4.1 h6.1
  have h9 : t.u * sumA ns ls (xs.take m) ≤ 1000 * 208000 := Int.mul_le_mul q4.2 (by omega) h6.1 (by omega)
  unfold bilS
  omega

theorem bil_sums {ns ls : List Nd} {t : Qd} (hh : wholeB ns ls = true) (ht : qdB t = true) : IntKind.i64.wrap (t.x * totalW ns ls) = t.x * totalW ns ls ∧ IntKind.i64.wrap (t.y * lengthI ns ls) = t.y * lengthI ns ls ∧ IntKind.i64.wrap (t.z * jointI ns ls) = t.z * jointI ns ls ∧ IntKind.i64.wrap (t.x * totalW ns ls + t.y * lengthI ns ls) = t.x * totalW ns ls + t.y * lengthI ns ls ∧ IntKind.i64.wrap (t.x * totalW ns ls + t.y * lengthI ns ls + t.z * jointI ns ls) = t.x * totalW ns ls + t.y * lengthI ns ls + t.z * jointI ns ls := by
  obtain ⟨-, -, h3, h4⟩ := bill_base hh ht
  obtain ⟨q1, q2, q3, q4⟩ := (qdB_iff t).1 ht
  have h5 := price_bd q1 (totalW_nn hh)
  exact ⟨IntWalk.i64_in _ (by omega), IntWalk.i64_in _ (by omega), IntWalk.i64_in _ (by omega), IntWalk.i64_in _ (by omega), IntWalk.i64_in _ (by omega)⟩

set_option maxRecDepth 100000 in
set_option maxHeartbeats 8000000 in
theorem specBill (ns ls : List Nd) (xs : List Int) (t : Qd) (vn vl v : Value) (w : World) (hn : Prs w vn ns) (hl : Prs w vl ls) (hv : Seq w v xs) :
    Calls Tryz.prog 38 #[.agg #[vn, vl], t.val, v] w (IntIs (bilW ns ls t xs) w) := by
  have HF := Lib.hid (fun w h1 h2 => specFacesL ns ls vn vl w h1 h2)
  unfold FacesNew at HF
  have HTF := Lib.hid (fun w => specTariff t w)
  have h40 := wF_len (ns := ns) (ls := ls)
  have HLI := Lib.hid (fun w hv => specLst (wF ns ls).length xs v w hv (by omega))
  have HO := Lib.hid (fun w h1 h2 => specOuterFace ns ls vn vl w h1 h2)
  have HHA := Lib.hid (fun w hv => specHas xs v (outW ns ls) w hv)
  have HTO := Lib.hid (fun w h1 h2 => specTotal ns ls vn vl w h1 h2)
  have HLL := Lib.hid (fun w h1 h2 => specLeadLen ns ls vn vl w h1 h2)
  have HJJ := Lib.hid (fun w h1 h2 => specJoint ns ls vn vl w h1 h2)
  have HAR := Lib.hid (fun f w h1 h2 => specAreaOf ns ls vn vl f w h1 h2)
  unfold BoolIs at HTF HLI HHA
  unfold IntIs at HO HTO HLL HJJ HAR
  have HBB := Lib.hid (show bilB ns ls t xs = ((wholeB ns ls && qdB t) && (lstB (wF ns ls).length xs && !(xs.contains (outW ns ls)))) from rfl)
  have HNO := Lib.hid (fun (h : bilB ns ls t xs = false) => (show bilW ns ls t xs = -1 from if_neg (by rw [h]; simp)))
  have HYE := Lib.hid (fun (h : bilB ns ls t xs = true) => (show bilW ns ls t xs = bilS ns ls t xs xs.length from by unfold bilS; rw [List.take_length]; exact if_pos h))
  have HZE := Lib.hid (fun (h : wholeB ns ls = false) => (show (wF ns ls).length = 0 from by rw [show wF ns ls = [] from if_neg (by rw [h]; simp)]; rfl))
  have HPO := Lib.hid (fun (h : wholeB ns ls = true) => wF_pos h)
  have HSU := Lib.hid (fun (h : wholeB ns ls = true) (h2 : qdB t = true) => bil_sums h h2)
  have HBD := Lib.hid (fun (h : wholeB ns ls = true) (h2 : qdB t = true) (h3 : lstB (wF ns ls).length xs = true) m => bilS_bd h h2 ((lstB_iff _ _).1 h3) m)
  have HAB := Lib.hid (fun (h2 : qdB t = true) (h3 : lstB (wF ns ls).length xs = true) m (hm : m < xs.length) => (show IntKind.i64.wrap (t.u * areaW ns ls (atZ xs m)) = t.u * areaW ns ls (atZ xs m) from by
    have h4 := ((lstB_iff _ _).1 h3).inr m hm
    have h5 := area_nnB (ns := ns) (ls := ls) ((idxB_iff _ _).2 (show 0 ≤ atZ xs m ∧ atZ xs m < ((wF ns ls).length : Int) by omega))
    have h6 := price_bd ((qdB_iff t).1 h2).2.2.2 h5
    exact IntWalk.i64_in _ (by omega)))
  have HTK := Lib.hid (fun m (hm : m < xs.length) => bilS_succ (ns := ns) (ls := ls) (t := t) hm)
  have HT0 := Lib.hid (bilS_zero ns ls t xs)
  have HXL := Lib.hid (fun (h3 : lstB (wF ns ls).length xs = true) => (show xs.length ≤ 40 from by have := ((lstB_iff _ _).1 h3).len; omega))
  have HN := Lib.hid hn
  have HL := Lib.hid hl
  have HV := Lib.hid hv
  have H0 := Lib.hid ((held_pair w vn vl 32).new2 (w.heap.size + 1) (by simp) [.int .i64 t.x, .int .i64 t.y, .int .i64 t.z, .int .i64 t.u] 55)
  simp only [newFs, List.cons_append, List.nil_append, List.append_nil] at H0
  obtain ⟨A, c, rfl⟩ := prs_form2 hn
  obtain ⟨A2, c2, rfl⟩ := prs_form2 hl
  obtain ⟨A3, c3, rfl⟩ := seq_form2 hv
  clear hn hl hv
  generalize bilS ns ls t xs = SB at *
  generalize bilW ns ls t xs = res at *
  generalize bilB ns ls t xs = bb at *
  generalize totalW ns ls = TT at *
  generalize lengthI ns ls = LEN at *
  generalize jointI ns ls = JN at *
  generalize areaW ns ls = AR at *
  generalize xs.contains (outW ns ls) = hs at *
  generalize outW ns ls = o at *
  generalize wF ns ls = rs at *
  generalize wholeB ns ls = ok at *
  generalize qdB t = tq at *
  generalize lstB rs.length xs = lb at *
  obtain ⟨x, y, z, u⟩ := t
  unfold Qd.val at HTF ⊢
  simp only at H0 HTF HT0 HSU HTK HAB ⊢
  cases ok
  · have HB := Lib.hid (show bb = false from by rw [HBB.out]; rfl)
    have HFF := Lib.hid (HNO.out HB.out)
    have hz := HZE.out rfl
    go_enter Tryz.func38, Tryz.ntmps38
    obtain ⟨x0, x1, x2, x3, x4, x5, _⟩ := H0.out.1
    go_wp2_with fail
    refine (HF.out _ (HN.out.step H0.out.below) (HL.out.step H0.out.below)).mono ?_
    rintro e w1 ⟨vf, rfl, hf, hb⟩
    obtain ⟨af, cf, rfl⟩ := faces_form hf
    have H1 := Lib.hid (H0.out.step hb)
    clear hb hf x0 x1 x2 x3 x4 x5 H0
    obtain ⟨x0, x1, x2, x3, x4, x5, _⟩ := H1.out.1
    rw [hz]
    go_wp2_with fail
    go_ret
    exact ⟨ret_int HFF.out.symm, H1.out.below⟩
  · have hpo := HPO.out rfl
    have ez : ((rs.length : Int) == 0) = false := by rw [beq_eq_false_iff_ne]; omega
    clear HZE HPO
    cases tq
    · have HB := Lib.hid (show bb = false from by rw [HBB.out]; rfl)
      have HFF := Lib.hid (HNO.out HB.out)
      go_enter Tryz.func38, Tryz.ntmps38
      obtain ⟨x0, x1, x2, x3, x4, x5, _⟩ := H0.out.1
      go_wp2_with fail
      refine (HF.out _ (HN.out.step H0.out.below) (HL.out.step H0.out.below)).mono ?_
      rintro e w1 ⟨vf, rfl, hf, hb⟩
      obtain ⟨af, cf, rfl⟩ := faces_form hf
      have H1 := Lib.hid (H0.out.step hb)
      clear hb hf x0 x1 x2 x3 x4 x5 H0
      obtain ⟨x0, x1, x2, x3, x4, x5, _⟩ := H1.out.1
      go_wp2_with fail
      refine (HTF.out _).mono ?_
      rintro e w2 ⟨rfl, hb⟩
      have H2 := Lib.hid (H1.out.step hb)
      clear hb x0 x1 x2 x3 x4 x5 H1
      obtain ⟨x0, x1, x2, x3, x4, x5, _⟩ := H2.out.1
      go_wp2_with fail
      go_ret
      exact ⟨ret_int HFF.out.symm, H2.out.below⟩
    · cases lb
      · have HB := Lib.hid (show bb = false from by rw [HBB.out]; rfl)
        have HFF := Lib.hid (HNO.out HB.out)
        go_enter Tryz.func38, Tryz.ntmps38
        obtain ⟨x0, x1, x2, x3, x4, x5, _⟩ := H0.out.1
        go_wp2_with fail
        refine (HF.out _ (HN.out.step H0.out.below) (HL.out.step H0.out.below)).mono ?_
        rintro e w1 ⟨vf, rfl, hf, hb⟩
        obtain ⟨af, cf, rfl⟩ := faces_form hf
        have H1 := Lib.hid (H0.out.step hb)
        clear hb hf x0 x1 x2 x3 x4 x5 H0
        obtain ⟨x0, x1, x2, x3, x4, x5, _⟩ := H1.out.1
        go_wp2_with fail
        refine (HTF.out _).mono ?_
        rintro e w2 ⟨rfl, hb⟩
        have H2 := Lib.hid (H1.out.step hb)
        clear hb x0 x1 x2 x3 x4 x5 H1
        obtain ⟨x0, x1, x2, x3, x4, x5, _⟩ := H2.out.1
        go_wp2_with fail
        refine (HLI.out _ (HV.out.step H2.out.below)).mono ?_
        rintro e w3 ⟨rfl, hb⟩
        have H3 := Lib.hid (H2.out.step hb)
        clear hb x0 x1 x2 x3 x4 x5 H2
        obtain ⟨x0, x1, x2, x3, x4, x5, _⟩ := H3.out.1
        go_wp2_with fail
        go_ret
        exact ⟨ret_int HFF.out.symm, H3.out.below⟩
      · cases hs
        · have HB := Lib.hid (show bb = true from by rw [HBB.out]; rfl)
          have HRES := Lib.hid (HYE.out HB.out)
          obtain ⟨e1, e2, e3, e4, e5⟩ := HSU.out rfl rfl
          replace HBD := Lib.hid (HBD.out rfl rfl rfl)
          replace HAB := Lib.hid (HAB.out rfl rfl)
          have hxl := HXL.out rfl
          clear HYE HNO HBB HSU HXL
          go_enter Tryz.func38, Tryz.ntmps38
          obtain ⟨x0, x1, x2, x3, x4, x5, _⟩ := H0.out.1
          go_wp2_with fail
          refine (HF.out _ (HN.out.step H0.out.below) (HL.out.step H0.out.below)).mono ?_
          rintro e w1 ⟨vf, rfl, hf, hb⟩
          obtain ⟨af, cf, rfl⟩ := faces_form hf
          have H1 := Lib.hid (H0.out.step hb)
          clear hb hf x0 x1 x2 x3 x4 x5 H0
          obtain ⟨x0, x1, x2, x3, x4, x5, _⟩ := H1.out.1
          go_wp2_with fail
          refine (HTF.out _).mono ?_
          rintro e w2 ⟨rfl, hb⟩
          have H2 := Lib.hid (H1.out.step hb)
          clear hb x0 x1 x2 x3 x4 x5 H1
          obtain ⟨x0, x1, x2, x3, x4, x5, _⟩ := H2.out.1
          go_wp2_with fail
          refine (HLI.out _ (HV.out.step H2.out.below)).mono ?_
          rintro e w3 ⟨rfl, hb⟩
          have H3 := Lib.hid (H2.out.step hb)
          clear hb x0 x1 x2 x3 x4 x5 H2
          obtain ⟨x0, x1, x2, x3, x4, x5, _⟩ := H3.out.1
          go_wp2_with fail
          refine (HO.out _ (HN.out.step H3.out.below) (HL.out.step H3.out.below)).mono ?_
          rintro e w4 ⟨rfl, hb⟩
          have H4 := Lib.hid (H3.out.step hb)
          clear hb x0 x1 x2 x3 x4 x5 H3
          obtain ⟨x0, x1, x2, x3, x4, x5, _⟩ := H4.out.1
          go_wp2_with fail
          refine (HHA.out _ (HV.out.step H4.out.below)).mono ?_
          rintro e w5 ⟨rfl, hb⟩
          have H5 := Lib.hid (H4.out.step hb)
          clear hb x0 x1 x2 x3 x4 x5 H4
          obtain ⟨x0, x1, x2, x3, x4, x5, _⟩ := H5.out.1
          have HN5 := Lib.hid (HN.out.step H5.out.below)
          have HL5 := Lib.hid (HL.out.step H5.out.below)
          have HV5 := Lib.hid (HV.out.step H5.out.below)
          have B5 := Lib.hid H5.out.below
          have S5 := Lib.hid (Held.start H5.out.1 H5.out.2.1)
          go_wp2_with fail
          clear x0 x1 x2 x3 x4 x5 H5
          refine regionD (S := fun W => Held _ W [(w.heap.size + 1, 0, .int .i64 (x)), (w.heap.size + 1, 1, .int .i64 (y)), (w.heap.size + 1, 2, .int .i64 (z)), (w.heap.size + 1, 3, .int .i64 (u)), (w.heap.size, 0, .slice A ns.length c), (w.heap.size, 1, .slice A2 ls.length c2)]) (by kernel_rfl) S5.out.drew ?_
          iterate 18 (refine takeT (v := ?_) rfl (by kernel_rfl) (by kernel_rfl) (by kernel_rfl) ?_ ?_; rotate_left; (first | (refine Or.inr ⟨by rfl, ?_⟩; with_reducible rfl) | (refine Or.inl ⟨by rfl, fun W hS => detRes_value (w' := W) ?_ hS⟩; obtain ⟨x0, x1, x2, x3, x4, x5, _⟩ := hS.1; go_simp; first | done | with_reducible rfl) | (refine Or.inl ⟨by rfl, fun W hS => ?_⟩; refine detRes_call (w' := W) (f := ?_) (args := ?_) ?_ ?_; rotate_left 2; (go_simp; (refine ⟨?_, ?_⟩ <;> with_reducible rfl)); (first | (with_reducible refine (HTO.out _ (HN5.out.step hS.below) (HL5.out.step hS.below)).mono ?_) | (with_reducible refine (HLL.out _ (HN5.out.step hS.below) (HL5.out.step hS.below)).mono ?_) | (with_reducible refine (HJJ.out _ (HN5.out.step hS.below) (HL5.out.step hS.below)).mono ?_) | fail); (first | (rintro e wn ⟨rfl, hb⟩; refine ⟨?_, hS.step hb⟩; with_reducible rfl) | (rintro e wn ⟨rfl, rfl⟩; refine ⟨?_, hS⟩; with_reducible rfl) | fail)) | fail); (simp only [Act.put, List.setIfInBounds_toArray, List.set_cons_zero, List.set_cons_succ]))
          refine doneD (by kernel_rfl) fun wH6 HS => ?_
          have H6 := Lib.hid HS; clear HS
          try clear x0 x1 x2 x3 x4 x5
          obtain ⟨x0, x1, x2, x3, x4, x5, _⟩ := H6.out.1
          go_wp2_with fail
          clear e1 e2 e3 e4 e5
          go_loopw [8, 9] (fun o i wr => ∃ m : Nat, m ≤ xs.length ∧ i = .int .i64 m ∧ o = .int .i64 (SB m) ∧ Held w5 wr [(w.heap.size + 1, 0, .int .i64 x), (w.heap.size + 1, 1, .int .i64 y), (w.heap.size + 1, 2, .int .i64 z), (w.heap.size + 1, 3, .int .i64 u), (w.heap.size, 0, .slice A ns.length c), (w.heap.size, 1, .slice A2 ls.length c2)]) (fun _ i _ => xs.length - (intOf i).toNat)
          case atStart => exact ⟨0, Nat.zero_le _, rfl, by rw [HT0.out], H6.out⟩
          case round =>
            clear H6 S5
            obtain ⟨m, hm, rfl, rfl, hh⟩ := hrel
            have H1 := Lib.hid hh; clear hh
            by_cases hlt : m < xs.length
            · obtain ⟨bx, ox, rfl, hbx, hcx⟩ := seq_at (HV5.out.step H1.out.below) m hlt
              have cx := hcx m hlt
              have HTM := Lib.hid (HTK.out m hlt)
              have e1 := HAB.out m hlt
              obtain ⟨b1, b2⟩ := HBD.out m
              obtain ⟨b3, b4⟩ := HBD.out (m + 1)
              rw [HTM.out] at b3 b4
              clear hcx
              generalize atZ xs m = f at *
              have HARf := Lib.hid (HAR.out f)
              generalize AR f = ar at *
              generalize SB m = sm at *
              have e2 : IntKind.i64.wrap (sm + u * ar) = sm + u * ar := IntWalk.i64_in _ (by omega)
              have p3 : (0 : Int) ≤ m := by omega
              have p4 : (m : Int) < (xs.length : Int) := by omega
              have H2 := Lib.hid (Held.start (w := wr) (fs := [(w.heap.size + 1, 0, .int .i64 x), (w.heap.size + 1, 1, .int .i64 y), (w.heap.size + 1, 2, .int .i64 z), (w.heap.size + 1, 3, .int .i64 u), (w.heap.size, 0, .slice A ns.length c), (w.heap.size, 1, .slice A2 ls.length c2), (bx, ox + m, .int .i64 f)]) (held_plus H1.out (gs := [(bx, ox + m, .int .i64 f)]) ⟨cx, trivial⟩ ⟨hbx, trivial⟩).1 (held_plus H1.out (gs := [(bx, ox + m, .int .i64 f)]) ⟨cx, trivial⟩ ⟨hbx, trivial⟩).2.1)
              clear cx hbx
              obtain ⟨x0, x1, x2, x3, x4, x5, x6, _⟩ := H2.out.1
              go_wp2_with fail
              clear x0 x1 x2 x3 x4 x5 x6
              refine regionD (S := fun W => Held _ W [(w.heap.size + 1, 0, .int .i64 (x)), (w.heap.size + 1, 1, .int .i64 (y)), (w.heap.size + 1, 2, .int .i64 (z)), (w.heap.size + 1, 3, .int .i64 (u)), (w.heap.size, 0, .slice A ns.length c), (w.heap.size, 1, .slice A2 ls.length c2), (bx, ox + m, .int .i64 (f))]) (by kernel_rfl) H2.out.drew ?_
              iterate 12 (refine takeT (v := ?_) rfl (by kernel_rfl) (by kernel_rfl) (by kernel_rfl) ?_ ?_; rotate_left; (first | (refine Or.inr ⟨by rfl, ?_⟩; with_reducible rfl) | (refine Or.inl ⟨by rfl, fun W hS => detRes_value (w' := W) ?_ hS⟩; obtain ⟨x0, x1, x2, x3, x4, x5, x6, _⟩ := hS.1; go_simp; first | done | with_reducible rfl) | (refine Or.inl ⟨by rfl, fun W hS => ?_⟩; refine detRes_call (w' := W) (f := ?_) (args := ?_) ?_ ?_; rotate_left 2; (go_simp; (refine ⟨?_, ?_⟩ <;> with_reducible rfl)); (first | (with_reducible refine (HARf.out _ (HN5.out.step (H1.out.below.trans (hS.below.mono H1.out.below.size))) (HL5.out.step (H1.out.below.trans (hS.below.mono H1.out.below.size)))).mono ?_) | fail); (first | (rintro e wn ⟨rfl, hb⟩; refine ⟨?_, hS.step hb⟩; with_reducible rfl) | (rintro e wn ⟨rfl, rfl⟩; refine ⟨?_, hS⟩; with_reducible rfl) | fail)) | fail); (simp only [Act.put, List.setIfInBounds_toArray, List.set_cons_zero, List.set_cons_succ]))
              refine doneD (by kernel_rfl) fun wH3 HS => ?_
              have H3 := Lib.hid HS; clear HS
              try clear x0 x1 x2 x3 x4 x5 x6
              obtain ⟨x0, x1, x2, x3, x4, x5, x6, _⟩ := H3.out.1
              go_wp2_with fail
              exact ⟨⟨m + 1, by omega, by go_num, by rw [HTM.out], H1.out.step H3.out.below⟩, by simp [intOf]; omega⟩
            · obtain rfl : m = xs.length := by omega
              go_wp2_with fail
              go_ret
              exact ⟨ret_int HRES.out.symm, B5.out.trans (H1.out.below.mono B5.out.size)⟩
        · have HB := Lib.hid (show bb = false from by rw [HBB.out]; rfl)
          have HFF := Lib.hid (HNO.out HB.out)
          go_enter Tryz.func38, Tryz.ntmps38
          obtain ⟨x0, x1, x2, x3, x4, x5, _⟩ := H0.out.1
          go_wp2_with fail
          refine (HF.out _ (HN.out.step H0.out.below) (HL.out.step H0.out.below)).mono ?_
          rintro e w1 ⟨vf, rfl, hf, hb⟩
          obtain ⟨af, cf, rfl⟩ := faces_form hf
          have H1 := Lib.hid (H0.out.step hb)
          clear hb hf x0 x1 x2 x3 x4 x5 H0
          obtain ⟨x0, x1, x2, x3, x4, x5, _⟩ := H1.out.1
          go_wp2_with fail
          refine (HTF.out _).mono ?_
          rintro e w2 ⟨rfl, hb⟩
          have H2 := Lib.hid (H1.out.step hb)
          clear hb x0 x1 x2 x3 x4 x5 H1
          obtain ⟨x0, x1, x2, x3, x4, x5, _⟩ := H2.out.1
          go_wp2_with fail
          refine (HLI.out _ (HV.out.step H2.out.below)).mono ?_
          rintro e w3 ⟨rfl, hb⟩
          have H3 := Lib.hid (H2.out.step hb)
          clear hb x0 x1 x2 x3 x4 x5 H2
          obtain ⟨x0, x1, x2, x3, x4, x5, _⟩ := H3.out.1
          go_wp2_with fail
          refine (HO.out _ (HN.out.step H3.out.below) (HL.out.step H3.out.below)).mono ?_
          rintro e w4 ⟨rfl, hb⟩
          have H4 := Lib.hid (H3.out.step hb)
          clear hb x0 x1 x2 x3 x4 x5 H3
          obtain ⟨x0, x1, x2, x3, x4, x5, _⟩ := H4.out.1
          go_wp2_with fail
          refine (HHA.out _ (HV.out.step H4.out.below)).mono ?_
          rintro e w5 ⟨rfl, hb⟩
          have H5 := Lib.hid (H4.out.step hb)
          clear hb x0 x1 x2 x3 x4 x5 H4
          obtain ⟨x0, x1, x2, x3, x4, x5, _⟩ := H5.out.1
          go_wp2_with fail
          go_ret
          exact ⟨ret_int HFF.out.symm, H5.out.below⟩
end Go.Proofs.YtepacoacalhdcaaGreat
