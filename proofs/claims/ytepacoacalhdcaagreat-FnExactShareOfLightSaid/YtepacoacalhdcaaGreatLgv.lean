/-
  The share of the light, of the program and of the model.
-/
import Derived.Test.YtepacoacalhdcaaGreatLgs
namespace Go.Proofs.YtepacoacalhdcaaGreat
open Go.RowKit
set_option linter.unusedVariables false
set_option linter.unusedSimpArgs false

theorem sumT_nn {F : Nat → Int} : ∀ n, (∀ i, i < n → 0 ≤ F i) → 0 ≤ sumT F n
  | 0, _ => Int.le_refl 0
  | n + 1, h => by
    have := sumT_nn n fun i hi => h i (by omega)
    have h2 := h n (by omega)
    show 0 ≤ sumT F n + F n
    omega

theorem sumT_ge {F : Nat → Int} {k : Nat} : ∀ n, (∀ i, i < n → 0 ≤ F i) → k < n → F k ≤ sumT F n
  | 0, _, hk => by omega
  | n + 1, h, hk => by
    have h2 := h n (by omega)
    have h3 := sumT_nn n fun i hi => h i (by omega)
    show F k ≤ sumT F n + F n
    by_cases e : k = n
    · subst e; omega
    · have := sumT_ge n (fun i hi => h i (by omega)) (show k < n by omega)
      omega

theorem ligW_zero {ns ls : List Nd} {xs : List Tr} {g : Tr → Int} (h : ∀ k, k < (wF ns ls).length → innP (outW ns ls) k = false) : ligW ns ls xs g = 0 := by
  unfold ligW
  split
  · exact sumT_zero _ fun k hk => if_neg (by rw [h k hk]; simp)
  · rfl

/-- Where there is light, there is an area. -/
theorem share_area {ns ls : List Nd} {xs : List Tr} (h : ¬ ligW ns ls xs Tr.x + ligW ns ls xs Tr.y + ligW ns ls xs Tr.z = 0) : 0 < totalW ns ls ∧ totalW ns ls ≤ 16000 := by
  by_cases hb : lgtB ns ls xs = true
  · have hh := (lgtB_parts hb).1
    refine ⟨?_, (totalW_nn hh).2⟩
    refine Classical.byContradiction fun hn => h ?_
    have hz : ∀ k, k < (wF ns ls).length → innP (outW ns ls) k = false := fun k hk => by
      refine Classical.byContradiction fun hp => hn ?_
      have hp2 : innP (outW ns ls) k = true := by simpa using hp
      have h1 := inn_pos hh hk hp2
      rw [← total_inn hh]
      have := sumT_ge (F := fun k => max 0 (arK ns ls k)) (k := k) (wF ns ls).length (fun i _ => by show 0 ≤ max 0 (arK ns ls i); omega) hk
      omega
    rw [ligW_zero hz, ligW_zero hz, ligW_zero hz]
    rfl
  · exfalso
    apply h
    unfold ligW
    rw [if_neg hb, if_neg hb, if_neg hb]
    rfl

theorem quo_big {q a : Int} (h0 : 0 ≤ q) (h1 : q ≤ 1000000000000) (ha : 0 < a) : IntKind.i64.wrap (q.tdiv a) = q.tdiv a ∧ wrap64 (q.tdiv a) = q.tdiv a ∧ a ≠ 0 ∧ (a == 0) = false := by
  have h2 : 0 ≤ q.tdiv a ∧ q.tdiv a ≤ q := by
    rw [Int.tdiv_eq_ediv_of_nonneg h0]
    exact ⟨Int.ediv_nonneg h0 (by omega), Int.ediv_le_self _ h0⟩
  exact ⟨IntWalk.i64_in _ (by omega), IntWalk.wrap64_in _ (by omega), by omega, by rw [beq_eq_false_iff_ne]; omega⟩

noncomputable def shaW (ns ls : List Nd) (xs : List Tr) : Int :=
  if ligW ns ls xs Tr.x + ligW ns ls xs Tr.y + ligW ns ls xs Tr.z = 0 then 0 else Int.tdiv ((ligW ns ls xs Tr.x + ligW ns ls xs Tr.y + ligW ns ls xs Tr.z) * 1000) (3000 * totalW ns ls)

set_option maxRecDepth 100000 in
set_option maxHeartbeats 1000000 in
theorem implShrL (ns ls : List Nd) (xs : List Tr) (vn vl v : Value) (w : World) (hn : Prs w vn ns) (hl : Prs w vl ls) (hv : Trs w v xs) :
    Calls Tryz.prog 53 #[.agg #[vn, vl], v] w (IntIs (shaW ns ls xs) w) := by
  have HLT := Lib.hid (fun w h1 h2 h3 => implLight ns ls xs vn vl v w h1 h2 h3)
  have HT := Lib.hid (fun w h1 h2 => implTotal ns ls vn vl w h1 h2)
  unfold ColIs at HLT
  unfold IntIs at HT
  have b1 := ligW_bd (ns := ns) (ls := ls) (xs := xs) shadeX (by omega)
  have b2 := ligW_bd (ns := ns) (ls := ls) (xs := xs) shadeY (by omega)
  have b3 := ligW_bd (ns := ns) (ls := ls) (xs := xs) shadeZ (by omega)
  have HTB := Lib.hid (fun h => share_area (ns := ns) (ls := ls) (xs := xs) h)
  have HR := Lib.hid (show shaW ns ls xs = if ligW ns ls xs Tr.x + ligW ns ls xs Tr.y + ligW ns ls xs Tr.z = 0 then 0 else Int.tdiv ((ligW ns ls xs Tr.x + ligW ns ls xs Tr.y + ligW ns ls xs Tr.z) * 1000) (3000 * totalW ns ls) from rfl)
  generalize shaW ns ls xs = res at *
  generalize ligW ns ls xs Tr.x = x at *
  generalize ligW ns ls xs Tr.y = y at *
  generalize ligW ns ls xs Tr.z = z at *
  generalize totalW ns ls = T at *
  have HN := Lib.hid hn
  have HL := Lib.hid hl
  have HV := Lib.hid hv
  have H0 := Lib.hid (held_pair w vn vl 32)
  obtain ⟨A, c, rfl⟩ := prs_form2 hn
  obtain ⟨A2, c2, rfl⟩ := prs_form2 hl
  obtain ⟨A3, c3, rfl⟩ := hv.form2
  clear hn hl hv
  have u1 : IntKind.i64.wrap (x + y) = x + y := IntWalk.i64_in _ (by omega)
  have u2 : IntKind.i64.wrap (x + y + z) = x + y + z := IntWalk.i64_in _ (by omega)
  have v1 : wrap64 (x + y) = x + y := IntWalk.wrap64_in _ (by omega)
  have v2 : wrap64 (x + y + z) = x + y + z := IntWalk.wrap64_in _ (by omega)
  obtain ⟨qn, hqn⟩ : ∃ q : Int, (x + y + z) * 1000 = q := ⟨_, rfl⟩
  have u3 : IntKind.i64.wrap ((x + y + z) * 1000) = qn := by rw [← hqn]; exact IntWalk.i64_in _ (by omega)
  have v3 : wrap64 ((x + y + z) * 1000) = qn := by rw [← hqn]; exact IntWalk.wrap64_in _ (by omega)
  have hq0 : 0 ≤ qn ∧ qn ≤ 1000000000000 := by omega
  rw [hqn] at HR
  by_cases hs : x + y + z = 0
  · have hs1 : (x + y + z == 0) = true := by simp [hs]
    have HX := Lib.hid (show res = 0 from by rw [HR.out]; exact if_pos hs)
    have HS := Lib.hid hs
    clear hs hqn HR HTB hq0
    go_enter Tryz.func53, Tryz.ntmps53
    obtain ⟨x0, x1, _⟩ := H0.out.1
    go_wp2_with fail
    refine (HLT.out _ (HN.out.step H0.out.below) (HL.out.step H0.out.below) (HV.out.step H0.out.below)).mono ?_
    rintro e w1 ⟨rfl, hb⟩
    have H1 := Lib.hid (H0.out.step hb); clear hb x0 x1
    go_wp2_with fail
    go_ret
    exact ⟨ret_int HX.out.symm, H1.out.below⟩
  · have hs1 : (x + y + z == 0) = false := by simp [hs]
    obtain ⟨t0, t1⟩ := HTB.out hs
    obtain ⟨a, ha⟩ : ∃ a : Int, 3000 * T = a := ⟨_, rfl⟩
    have u4 : IntKind.i64.wrap (3000 * T) = a := by rw [← ha]; exact IntWalk.i64_in _ (by omega)
    have v4 : wrap64 (3000 * T) = a := by rw [← ha]; exact IntWalk.wrap64_in _ (by omega)
    obtain ⟨d1, d2, d3, d4⟩ := quo_big hq0.1 hq0.2 (show 0 < a by omega)
    have HX := Lib.hid (show res = Int.tdiv qn a from by rw [HR.out, if_neg hs, ha])
    have HS := Lib.hid hs
    clear hs hqn HR HTB ha hq0
    go_enter Tryz.func53, Tryz.ntmps53
    obtain ⟨x0, x1, _⟩ := H0.out.1
    go_wp2_with fail
    refine (HLT.out _ (HN.out.step H0.out.below) (HL.out.step H0.out.below) (HV.out.step H0.out.below)).mono ?_
    rintro e w1 ⟨rfl, hb⟩
    have H1 := Lib.hid (H0.out.step hb); clear hb x0 x1
    obtain ⟨x0, x1, _⟩ := H1.out.1
    go_wp2_with fail
    refine (HT.out _ (HN.out.step H1.out.below) (HL.out.step H1.out.below)).mono ?_
    rintro e w2 ⟨rfl, hb⟩
    have H2 := Lib.hid (H1.out.step hb); clear hb x0 x1
    go_wp2_with fail
    go_ret
    exact ⟨ret_int HX.out.symm, H2.out.below⟩

set_option maxRecDepth 100000 in
set_option maxHeartbeats 1000000 in
theorem specShrL (ns ls : List Nd) (xs : List Tr) (vn vl v : Value) (w : World) (hn : Prs w vn ns) (hl : Prs w vl ls) (hv : Trs w v xs) :
    Calls Tryz.prog 52 #[.agg #[vn, vl], v] w (IntIs (shaW ns ls xs) w) := by
  have HLT := Lib.hid (fun w h1 h2 h3 => specLight ns ls xs vn vl v w h1 h2 h3)
  have HT := Lib.hid (fun w h1 h2 => specTotal ns ls vn vl w h1 h2)
  unfold ColIs at HLT
  unfold IntIs at HT
  have b1 := ligW_bd (ns := ns) (ls := ls) (xs := xs) shadeX (by omega)
  have b2 := ligW_bd (ns := ns) (ls := ls) (xs := xs) shadeY (by omega)
  have b3 := ligW_bd (ns := ns) (ls := ls) (xs := xs) shadeZ (by omega)
  have HTB := Lib.hid (fun h => share_area (ns := ns) (ls := ls) (xs := xs) h)
  have HR := Lib.hid (show shaW ns ls xs = if ligW ns ls xs Tr.x + ligW ns ls xs Tr.y + ligW ns ls xs Tr.z = 0 then 0 else Int.tdiv ((ligW ns ls xs Tr.x + ligW ns ls xs Tr.y + ligW ns ls xs Tr.z) * 1000) (3000 * totalW ns ls) from rfl)
  generalize shaW ns ls xs = res at *
  generalize ligW ns ls xs Tr.x = x at *
  generalize ligW ns ls xs Tr.y = y at *
  generalize ligW ns ls xs Tr.z = z at *
  generalize totalW ns ls = T at *
  have HN := Lib.hid hn
  have HL := Lib.hid hl
  have HV := Lib.hid hv
  have H0 := Lib.hid (held_pair w vn vl 32)
  obtain ⟨A, c, rfl⟩ := prs_form2 hn
  obtain ⟨A2, c2, rfl⟩ := prs_form2 hl
  obtain ⟨A3, c3, rfl⟩ := hv.form2
  clear hn hl hv
  have u1 : IntKind.i64.wrap (x + y) = x + y := IntWalk.i64_in _ (by omega)
  have u2 : IntKind.i64.wrap (x + y + z) = x + y + z := IntWalk.i64_in _ (by omega)
  have v1 : wrap64 (x + y) = x + y := IntWalk.wrap64_in _ (by omega)
  have v2 : wrap64 (x + y + z) = x + y + z := IntWalk.wrap64_in _ (by omega)
  obtain ⟨qn, hqn⟩ : ∃ q : Int, (x + y + z) * 1000 = q := ⟨_, rfl⟩
  have u3 : IntKind.i64.wrap ((x + y + z) * 1000) = qn := by rw [← hqn]; exact IntWalk.i64_in _ (by omega)
  have v3 : wrap64 ((x + y + z) * 1000) = qn := by rw [← hqn]; exact IntWalk.wrap64_in _ (by omega)
  have hq0 : 0 ≤ qn ∧ qn ≤ 1000000000000 := by omega
  rw [hqn] at HR
  by_cases hs : x + y + z = 0
  · have hs1 : (x + y + z == 0) = true := by simp [hs]
    have HX := Lib.hid (show res = 0 from by rw [HR.out]; exact if_pos hs)
    have HS := Lib.hid hs
    clear hs hqn HR HTB hq0
    go_enter Tryz.func52, Tryz.ntmps52
    obtain ⟨x0, x1, _⟩ := H0.out.1
    go_wp2_with fail
    refine (HLT.out _ (HN.out.step H0.out.below) (HL.out.step H0.out.below) (HV.out.step H0.out.below)).mono ?_
    rintro e w1 ⟨rfl, hb⟩
    have H1 := Lib.hid (H0.out.step hb); clear hb x0 x1
    go_wp2_with fail
    go_ret
    exact ⟨ret_int HX.out.symm, H1.out.below⟩
  · have hs1 : (x + y + z == 0) = false := by simp [hs]
    obtain ⟨t0, t1⟩ := HTB.out hs
    obtain ⟨a, ha⟩ : ∃ a : Int, 3000 * T = a := ⟨_, rfl⟩
    have u4 : IntKind.i64.wrap (3000 * T) = a := by rw [← ha]; exact IntWalk.i64_in _ (by omega)
    have v4 : wrap64 (3000 * T) = a := by rw [← ha]; exact IntWalk.wrap64_in _ (by omega)
    obtain ⟨d1, d2, d3, d4⟩ := quo_big hq0.1 hq0.2 (show 0 < a by omega)
    have HX := Lib.hid (show res = Int.tdiv qn a from by rw [HR.out, if_neg hs, ha])
    have HS := Lib.hid hs
    clear hs hqn HR HTB ha hq0
    go_enter Tryz.func52, Tryz.ntmps52
    obtain ⟨x0, x1, _⟩ := H0.out.1
    go_wp2_with fail
    refine (HLT.out _ (HN.out.step H0.out.below) (HL.out.step H0.out.below) (HV.out.step H0.out.below)).mono ?_
    rintro e w1 ⟨rfl, hb⟩
    have H1 := Lib.hid (H0.out.step hb); clear hb x0 x1
    obtain ⟨x0, x1, _⟩ := H1.out.1
    go_wp2_with fail
    refine (HT.out _ (HN.out.step H1.out.below) (HL.out.step H1.out.below)).mono ?_
    rintro e w2 ⟨rfl, hb⟩
    have H2 := Lib.hid (H1.out.step hb); clear hb x0 x1
    go_wp2_with fail
    go_ret
    exact ⟨ret_int HX.out.symm, H2.out.below⟩
end Go.Proofs.YtepacoacalhdcaaGreat
