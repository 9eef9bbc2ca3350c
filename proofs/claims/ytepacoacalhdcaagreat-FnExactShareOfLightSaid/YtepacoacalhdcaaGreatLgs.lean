/-
  The light that comes in, of the model.
-/
import Derived.Test.YtepacoacalhdcaaGreatLgt
import Derived.Test.YtepacoacalhdcaaGreatGlsT
import Derived.Test.YtepacoacalhdcaaGreatWhole
namespace Go.Proofs.YtepacoacalhdcaaGreat
open Go.RowKit
set_option linter.unusedVariables false
set_option linter.unusedSimpArgs false

set_option maxRecDepth 100000 in
set_option maxHeartbeats 1000000 in
theorem specLgOk (ns ls : List Nd) (xs : List Tr) (vn vl v : Value) (w : World) (hn : Prs w vn ns) (hl : Prs w vl ls) (hv : Trs w v xs) :
    Calls Tryz.prog 116 #[.agg #[vn, vl], v] w (BoolIs (lgtB ns ls xs) w) := by
  have HW := Lib.hid (fun w h1 h2 => specWhole ns ls vn vl w h1 h2)
  unfold BoolIs at HW
  have HF := Lib.hid (fun w h1 h2 => specFacesL ns ls vn vl w h1 h2)
  unfold FacesNew at HF
  have h40 := wF_len (ns := ns) (ls := ls)
  have HN := Lib.hid hn
  have HL := Lib.hid hl
  have HV := Lib.hid hv
  have hxl := hv.len
  have H0 := Lib.hid (held_pair w vn vl 32)
  obtain ⟨A, c, rfl⟩ := prs_form2 hn
  obtain ⟨A2, c2, rfl⟩ := prs_form2 hl
  obtain ⟨A3, c3, rfl⟩ := hv.form2
  clear hn hl hv
  have HNO := Lib.hid (fun k (hk : k < xs.length) h => (show lgtB ns ls xs = false from by unfold lgtB; rw [stsB_no hk h]; simp))
  have HYES := Lib.hid (fun h => (show lgtB ns ls xs = (wholeB ns ls && ((xs.length : Int) == ((wF ns ls).length : Int))) from by
    unfold lgtB; rw [stsB_yes (xs := xs) h, Bool.and_true]
    rw [show decide (xs.length = (wF ns ls).length) = ((xs.length : Int) == ((wF ns ls).length : Int)) from by rw [Bool.eq_iff_iff]; simp; omega]))
  unfold BoolIs
  generalize lgtB ns ls xs = res at *
  generalize wholeB ns ls = wh at *
  generalize wF ns ls = rs at *
  go_enter Tryz.func116, Tryz.ntmps116
  go_wp2_with fail
  go_loopw [5] (fun i wr => ∃ k : Nat, k ≤ xs.length ∧ i = .int .i64 k ∧ (∀ j, j < k → stainB (atT xs j) = true) ∧ Held w wr [(w.heap.size, 0, .slice A ns.length c), (w.heap.size, 1, .slice A2 ls.length c2)]) (fun i _ => xs.length - (intOf i).toNat)
  case atStart => exact ⟨0, Nat.zero_le _, rfl, fun j hj => by omega, H0.out⟩
  case round =>
    clear H0
    obtain ⟨k, hk, rfl, ha, hh⟩ := hrel
    have HA := Lib.hid ha; clear ha
    have H1 := Lib.hid hh; clear hh
    by_cases hlt : k < xs.length
    · obtain ⟨_, _, he, _, _, hcs⟩ := (HV.out.step H1.out.below).form
      injection he with he1 he2 he3
      obtain ⟨b, o, hA, hbl, hc0, hc1, hc2⟩ := hcs k hlt
      rw [← he1] at hA
      subst hA
      clear he1 he2 he3 hcs
      have HS := Lib.hid (specStainOk (atT xs k))
      have HN2 := Lib.hid (HNO.out k hlt)
      have HNX := Lib.hid (fun (h : stainB (atT xs k) = true) => (fun j (hj : j < k + 1) => (if e : j = k then e ▸ h else HA.out j (by omega)) : ∀ j, j < k + 1 → stainB (atT xs j) = true))
      have hz1 : (k : Int) < (xs.length : Int) := by omega
      have hz2 : (0 : Int) ≤ k := by omega
      generalize stainB (atT xs k) = d at *
      generalize atT xs k = t at *
      obtain ⟨x, y, z⟩ := t
      unfold Tr.val BoolIs at HS
      simp only at HS hc0 hc1 hc2
      go_wp2_with fail
      refine (HS.out _).mono ?_
      rintro e w2 ⟨rfl, hb⟩
      have H2 := Lib.hid (H1.out.step hb); clear hb
      cases d
      · go_wp2_with fail
        go_ret
        exact ⟨ret_bool (HN2.out (by first | rfl | trivial)).symm, H2.out.below⟩
      · go_wp2_with fail
        exact ⟨⟨k + 1, by omega, by go_num, HNX.out (by first | rfl | trivial), H2.out⟩, by simp [intOf]; omega⟩
    · obtain rfl : k = xs.length := by omega
      have HR := Lib.hid (HYES.out HA.out)
      obtain ⟨q, hq⟩ : ∃ q, ((xs.length : Int) == (rs.length : Int)) = q := ⟨_, rfl⟩
      rw [hq] at HR
      obtain ⟨x0, x1, _⟩ := H1.out.1
      cases wh
      · have HR2 := Lib.hid (show res = false from HR.out); clear HR
        go_wp2_with fail
        refine (HW.out _ (HN.out.step H1.out.below) (HL.out.step H1.out.below)).mono ?_
        rintro e w2 ⟨rfl, hb⟩
        have H2 := Lib.hid (H1.out.step hb); clear hb
        go_wp2_with fail
        go_ret
        exact ⟨ret_bool HR2.out.symm, H2.out.below⟩
      · have HR2 := Lib.hid (show res = q from by rw [HR.out]; rfl); clear HR
        go_wp2_with fail
        refine (HW.out _ (HN.out.step H1.out.below) (HL.out.step H1.out.below)).mono ?_
        rintro e w2 ⟨rfl, hb⟩
        have H2 := Lib.hid (H1.out.step hb); clear hb x0 x1
        obtain ⟨x0, x1, _⟩ := H2.out.1
        go_wp2_with fail
        refine (HF.out _ (HN.out.step H2.out.below) (HL.out.step H2.out.below)).mono ?_
        rintro e w3 ⟨vf, rfl, hf, hb⟩
        have H3 := Lib.hid (H2.out.step hb); clear hb
        obtain ⟨a, c5, rfl⟩ := faces_form hf
        clear hf
        go_wp2_with fail
        go_ret
        exact ⟨ret_bool HR2.out.symm, H3.out.below⟩

theorem ligF_succ {ns ls : List Nd} {xs : List Tr} {g : Tr → Int} (n : Nat) : ligF ns ls xs g (n + 1) = ligF ns ls xs g n + ligT ns ls xs g n := rfl

theorem ligT_out {ns ls : List Nd} {xs : List Tr} {g : Tr → Int} {k : Nat} (h : (k : Int) = outW ns ls) : ligT ns ls xs g k = 0 := if_neg (by simp [innP, h])

theorem ligT_in {ns ls : List Nd} {xs : List Tr} {g : Tr → Int} {k : Nat} (h : ¬ (k : Int) = outW ns ls) : ligT ns ls xs g k = areaW ns ls (k : Int) * g (atT xs k) := if_pos (by simp [innP, h])

theorem lgt_at2 {ns ls : List Nd} {xs : List Tr} (hb : lgtB ns ls xs = true) {k : Nat} (hk : k < xs.length) : (0 ≤ areaW ns ls (k : Int) ∧ areaW ns ls (k : Int) ≤ 16000) ∧ (0 ≤ (atT xs k).x ∧ (atT xs k).x ≤ 1000) ∧ (0 ≤ (atT xs k).y ∧ (atT xs k).y ≤ 1000) ∧ (0 ≤ (atT xs k).z ∧ (atT xs k).z ≤ 1000) := by
  obtain ⟨-, hl, hs⟩ := lgtB_parts hb
  exact ⟨area_nnB ((idxB_iff _ _).2 (show 0 ≤ (k : Int) ∧ (k : Int) < ((wF ns ls).length : Int) by omega)), stain_in (hs k hk)⟩

set_option maxRecDepth 100000 in
set_option maxHeartbeats 2000000 in
theorem specLight (ns ls : List Nd) (xs : List Tr) (vn vl v : Value) (w : World) (hn : Prs w vn ns) (hl : Prs w vl ls) (hv : Trs w v xs) :
    Calls Tryz.prog 50 #[.agg #[vn, vl], v] w (ColIs (ligW ns ls xs Tr.x) (ligW ns ls xs Tr.y) (ligW ns ls xs Tr.z) w) := by
  have HK := Lib.hid (fun w h1 h2 h3 => specLgOk ns ls xs vn vl v w h1 h2 h3)
  unfold BoolIs at HK
  have HO := Lib.hid (fun w h1 h2 => specOuterFace ns ls vn vl w h1 h2)
  unfold IntIs at HO
  have HAR := Lib.hid (fun f w h1 h2 => specAreaOf ns ls vn vl f w h1 h2)
  unfold IntIs at HAR
  have HN := Lib.hid hn
  have HL := Lib.hid hl
  have HV := Lib.hid hv
  have hxl := hv.len
  have H0 := Lib.hid (held_pair w vn vl 32)
  obtain ⟨A, c, rfl⟩ := prs_form2 hn
  obtain ⟨A2, c2, rfl⟩ := prs_form2 hl
  obtain ⟨A3, c3, rfl⟩ := hv.form2
  clear hn hl hv
  unfold ColIs
  by_cases hlb : lgtB ns ls xs = true
  · have hlen := (lgtB_parts hlb).2.1
    have h13 := wF_thirteen ns ls
    have hx13 : xs.length ≤ 13 := by omega
    have HAT := Lib.hid (fun (k : Nat) (hk : k < xs.length) => lgt_at2 hlb hk)
    have HE1 := Lib.hid (show ligW ns ls xs Tr.x = ligF ns ls xs Tr.x xs.length from by unfold ligW; rw [if_pos hlb, hlen])
    have HE2 := Lib.hid (show ligW ns ls xs Tr.y = ligF ns ls xs Tr.y xs.length from by unfold ligW; rw [if_pos hlb, hlen])
    have HE3 := Lib.hid (show ligW ns ls xs Tr.z = ligF ns ls xs Tr.z xs.length from by unfold ligW; rw [if_pos hlb, hlen])
    have HB1 := Lib.hid (fun n (hn : n ≤ xs.length) => ligF_bd (n := n) shadeX (by omega) hlb (by omega))
    have HB2 := Lib.hid (fun n (hn : n ≤ xs.length) => ligF_bd (n := n) shadeY (by omega) hlb (by omega))
    have HB3 := Lib.hid (fun n (hn : n ≤ xs.length) => ligF_bd (n := n) shadeZ (by omega) hlb (by omega))
    have HZ1 := Lib.hid (show ligF ns ls xs Tr.x 0 = 0 from rfl)
    have HZ2 := Lib.hid (show ligF ns ls xs Tr.y 0 = 0 from rfl)
    have HZ3 := Lib.hid (show ligF ns ls xs Tr.z 0 = 0 from rfl)
    have HO1 := Lib.hid (fun (n : Nat) (h : (n : Int) = outW ns ls) => (show ligF ns ls xs Tr.x (n + 1) = ligF ns ls xs Tr.x n ∧ ligF ns ls xs Tr.y (n + 1) = ligF ns ls xs Tr.y n ∧ ligF ns ls xs Tr.z (n + 1) = ligF ns ls xs Tr.z n from by simp only [ligF_succ, ligT_out h, Int.add_zero]; exact ⟨trivial, trivial, trivial⟩))
    have HI1 := Lib.hid (fun (n : Nat) (h : ¬ (n : Int) = outW ns ls) => (show ligF ns ls xs Tr.x (n + 1) = ligF ns ls xs Tr.x n + areaW ns ls (n : Int) * (atT xs n).x ∧ ligF ns ls xs Tr.y (n + 1) = ligF ns ls xs Tr.y n + areaW ns ls (n : Int) * (atT xs n).y ∧ ligF ns ls xs Tr.z (n + 1) = ligF ns ls xs Tr.z n + areaW ns ls (n : Int) * (atT xs n).z from by simp only [ligF_succ, ligT_in h]; exact ⟨trivial, trivial, trivial⟩))
    rw [hlb] at HK
    generalize ligW ns ls xs Tr.x = Lx at *
    generalize ligW ns ls xs Tr.y = Ly at *
    generalize ligW ns ls xs Tr.z = Lz at *
    generalize ligF ns ls xs Tr.x = Fx at *
    generalize ligF ns ls xs Tr.y = Fy at *
    generalize ligF ns ls xs Tr.z = Fz at *
    generalize outW ns ls = o at *
    clear hlb hlen h13
    go_enter Tryz.func50, Tryz.ntmps50
    obtain ⟨x0, x1, _⟩ := H0.out.1
    go_wp2_with fail
    refine (HK.out _ (HN.out.step H0.out.below) (HL.out.step H0.out.below) (HV.out.step H0.out.below)).mono ?_
    rintro e w1 ⟨rfl, hb⟩
    have H1 := Lib.hid (H0.out.step hb); clear hb x0 x1
    obtain ⟨x0, x1, _⟩ := H1.out.1
    go_wp2_with fail
    refine (HO.out _ (HN.out.step H1.out.below) (HL.out.step H1.out.below)).mono ?_
    rintro e w2 ⟨rfl, hb⟩
    have H2 := Lib.hid (H1.out.step hb); clear hb x0 x1
    go_wp2_with fail
    go_loopw [8, 9, 10, 11] (fun r g b i wr => ∃ m : Nat, m ≤ xs.length ∧ i = .int .i64 m ∧ r = .int .i64 (Fx m) ∧ g = .int .i64 (Fy m) ∧ b = .int .i64 (Fz m) ∧ Held w wr [(w.heap.size, 0, .slice A ns.length c), (w.heap.size, 1, .slice A2 ls.length c2)]) (fun _ _ _ i _ => xs.length - (intOf i).toNat)
    case atStart => exact ⟨0, Nat.zero_le _, rfl, by rw [HZ1.out], by rw [HZ2.out], by rw [HZ3.out], H2.out⟩
    case round =>
      clear H0 H1 H2
      obtain ⟨m, hm, rfl, rfl, rfl, rfl, hh⟩ := hrel
      have H1 := Lib.hid hh; clear hh
      by_cases hlt : m < xs.length
      · have hz1 : (m : Int) < (xs.length : Int) := by omega
        have hz2 : (0 : Int) ≤ m := by omega
        by_cases hmo : (m : Int) = o
        · obtain ⟨e1, e2, e3⟩ := HO1.out m hmo
          have E := Lib.hid (And.intro e1 (And.intro e2 e3)); clear e1 e2 e3
          have hg : ((m : Int) == o) = true := by simp [hmo]
          have HMO := Lib.hid hmo; clear hmo
          go_wp2_with fail
          exact ⟨⟨m + 1, by omega, by go_num, by rw [E.out.1], by rw [E.out.2.1], by rw [E.out.2.2], H1.out⟩, by simp [intOf]; omega⟩
        · obtain ⟨e1, e2, e3⟩ := HI1.out m hmo
          have hg : ((m : Int) == o) = false := by simp [hmo]
          obtain ⟨hA0, hX0, hY0, hZ0⟩ := HAT.out m hlt
          have hXB := HB1.out m hm
          have hYB := HB2.out m hm
          have hZB := HB3.out m hm
          have HAM := Lib.hid (fun w h1 h2 => HAR.out (m : Int) w h1 h2)
          have HMO := Lib.hid hmo; clear hmo
          have HCS := Lib.hid (fun W (hb : Below w.heap.size w W) => (HV.out.step hb).form)
          generalize areaW ns ls (m : Int) = ar at *
          have q1 := shade_mul hA0 hX0
          have q2 := shade_mul hA0 hY0
          have q3 := shade_mul hA0 hZ0
          obtain ⟨p1, hp1⟩ : ∃ p : Int, ar * (atT xs m).x = p := ⟨_, rfl⟩
          obtain ⟨p2, hp2⟩ : ∃ p : Int, ar * (atT xs m).y = p := ⟨_, rfl⟩
          obtain ⟨p3, hp3⟩ : ∃ p : Int, ar * (atT xs m).z = p := ⟨_, rfl⟩
          rw [hp1] at q1 e1
          rw [hp2] at q2 e2
          rw [hp3] at q3 e3
          have E := Lib.hid (And.intro e1 (And.intro e2 e3)); clear e1 e2 e3
          generalize Fx m = sx at *
          generalize Fy m = sy at *
          generalize Fz m = sz at *
          have u1 : IntKind.i64.wrap (ar * (atT xs m).x) = p1 := by rw [hp1]; exact IntWalk.i64_in _ (by omega)
          have u2 : IntKind.i64.wrap (ar * (atT xs m).y) = p2 := by rw [hp2]; exact IntWalk.i64_in _ (by omega)
          have u3 : IntKind.i64.wrap (ar * (atT xs m).z) = p3 := by rw [hp3]; exact IntWalk.i64_in _ (by omega)
          have u4 : IntKind.i64.wrap (sx + p1) = sx + p1 := IntWalk.i64_in _ (by omega)
          have u5 : IntKind.i64.wrap (sy + p2) = sy + p2 := IntWalk.i64_in _ (by omega)
          have u6 : IntKind.i64.wrap (sz + p3) = sz + p3 := IntWalk.i64_in _ (by omega)
          clear hp1 hp2 hp3 q1 q2 q3 hA0 hX0 hY0 hZ0
          obtain ⟨x0, x1, _⟩ := H1.out.1
          go_wp2_with fail
          refine (HAM.out _ (HN.out.step H1.out.below) (HL.out.step H1.out.below)).mono ?_
          rintro e w3 ⟨rfl, hb⟩
          have H3 := Lib.hid (H1.out.step hb); clear hb x0 x1
          obtain ⟨_, _, he, _, _, hcs⟩ := HCS.out _ H3.out.below
          injection he with he1 he2 he3
          obtain ⟨b, o', hA, hbl, hc0, hc1, hc2⟩ := hcs m hlt
          rw [← he1] at hA
          subst hA
          clear he1 he2 he3 hcs
          generalize atT xs m = t at *
          obtain ⟨x, y, z⟩ := t
          simp only at hc0 hc1 hc2 u1 u2 u3
          go_wp2_with fail
          exact ⟨⟨m + 1, by omega, by go_num, by rw [E.out.1], by rw [E.out.2.1], by rw [E.out.2.2], H3.out⟩, by simp [intOf]; omega⟩
      · obtain rfl : m = xs.length := by omega
        go_wp2_with fail
        refine bodyPost_ret (v := .tuple #[.int .i64 (Fx xs.length), .int .i64 (Fy xs.length), .int .i64 (Fz xs.length)]) (by simp [results, Tryz.results50, go_sem]) rfl ?_
        exact ⟨by rw [HE1.out, HE2.out, HE3.out], H1.out.below⟩
  · have e : lgtB ns ls xs = false := by simpa using hlb
    rw [e] at HK
    have HE := Lib.hid (fun g => (show ligW ns ls xs g = 0 from if_neg hlb))
    rw [HE.out, HE.out, HE.out]
    clear hlb e HE
    go_enter Tryz.func50, Tryz.ntmps50
    obtain ⟨x0, x1, _⟩ := H0.out.1
    go_wp2_with fail
    refine (HK.out _ (HN.out.step H0.out.below) (HL.out.step H0.out.below) (HV.out.step H0.out.below)).mono ?_
    rintro e w1 ⟨rfl, hb⟩
    have H1 := Lib.hid (H0.out.step hb); clear hb x0 x1
    go_wp2_with fail
    refine bodyPost_ret (v := .tuple #[.int .i64 0, .int .i64 0, .int .i64 0]) (by simp [results, Tryz.results50, go_sem]) rfl ?_
    exact ⟨rfl, H1.out.below⟩
end Go.Proofs.YtepacoacalhdcaaGreat
