/-
  A whole window has at most thirteen faces, plainly: every walk has three darts or more, unless there is one lead alone.
-/
import Derived.Test.YtmcbbjobjogkmaaGreatOutP
namespace Go.Proofs.YtmcbbjobjogkmaaGreat
open Go.RowKit
set_option linter.unusedVariables false
set_option linter.unusedSimpArgs false

theorem tw_tw (d : Nat) : tw (tw d) = d := by unfold tw; split <;> split <;> omega

theorem tw_half (d : Nat) : tw d / 2 = d / 2 := by unfold tw; split <;> omega

theorem dF_tw (ls : List Nd) (d : Nat) : dF ls (tw d) = dT ls d := by
  unfold dF dT
  rw [tw_half]
  by_cases h : d % 2 = 1
  · rw [if_pos h, if_neg (by unfold tw; rw [if_pos h]; omega)]
  · rw [if_neg h, if_pos (by unfold tw; rw [if_neg h]; omega)]

theorem dT_tw (ls : List Nd) (d : Nat) : dT ls (tw d) = dF ls d := by
  have := dF_tw ls (tw d)
  rw [tw_tw] at this
  exact this.symm

theorem nx_from {ns ls : List Nd} {d : Nat} (hw : winB ns ls = true) (hd : d < 2 * ls.length) : dF ls (nxN ns ls d) = dT ls d := by
  obtain ⟨q, p, r, h1, h2, h3, _⟩ := step_nat (-1) hw (tw_lt hd) (.inr rfl)
  have := nx_step hw hd
  rw [h1] at this
  rw [← Int.ofNat_inj.1 this, h3, dF_tw]

/-- Where a walk turns around, no other dart begins. -/
theorem nx_alone {ns ls : List Nd} {d : Nat} (hw : winB ns ls = true) (hd : d < 2 * ls.length) (h : nxN ns ls d = tw d) {x : Nat} (hx : x < 2 * ls.length) (hf : dF ls x = dT ls d) : x = tw d := by
  obtain ⟨q, p, r, h1, h2, h3, h4, h5, h6, h7, h8⟩ := step_nat (-1) hw (tw_lt hd) (.inr rfl)
  have hq := nx_step hw hd
  rw [h1, h] at hq
  have hq := Int.ofNat_inj.1 hq
  subst hq
  have hnd : (roundL ns ls (tw d)).Nodup := by unfold roundL; exact aroL_nodup _ _ _ _
  have hpr := atZ_inj hnd h4 h6 (h5.trans h7.symm)
  subst hpr
  have hn : (roundL ns ls (tw d)).length = 1 := by
    generalize (roundL ns ls (tw d)).length = n at *
    by_cases h0 : 0 < p
    · rw [show ((p : Int) + -1 + n) = ((p - 1 : Nat) : Int) + n by omega, Int.add_emod_right, Int.emod_eq_of_lt (by omega) (by omega)] at h8
      omega
    · rw [show ((p : Int) + -1 + n) = ((n - 1 : Nat) : Int) by omega, Int.emod_eq_of_lt (by omega) (by omega)] at h8
      omega
  obtain ⟨p2, k1, _, k2, _⟩ := round_place (ns := ns) hw hx
  have hr : roundL ns ls x = roundL ns ls (tw d) := by unfold roundL; rw [hf, dF_tw]
  rw [hr] at k1 k2
  have e : p2 = p := by omega
  subst e
  rw [h5] at k2
  exact (Int.ofNat_inj.1 k2).symm

/-- What does not change along a lead does not change from a node to its label. -/
theorem lab_inv (ls : List Nd) (c : Nat → Prop) : ∀ k, (∀ j, j < k → (c (atN ls j).x.toNat ↔ c (atN ls j).y.toNat)) → ∀ i, (c (lab ls k i) ↔ c i)
  | 0, _, i => Iff.rfl
  | k + 1, h, i => by
    have ih := lab_inv ls c k fun j hj => h j (by omega)
    have hi := ih i
    have ha := ih (atN ls k).x.toNat
    have hb := ih (atN ls k).y.toNat
    have hk := h k (by omega)
    unfold lab
    generalize lab ls k (atN ls k).x.toNat = a at *
    generalize lab ls k (atN ls k).y.toNat = b at *
    generalize lab ls k i = q at *
    have hab : c a ↔ c b := ha.trans (hk.trans hb.symm)
    by_cases h1 : q = max a b
    · rw [if_pos h1]
      rcases Nat.le_total a b with h2 | h2
      · rw [Nat.min_eq_left h2]
        rw [Nat.max_eq_right h2] at h1
        rw [← hi, h1]; exact hab
      · rw [Nat.min_eq_right h2]
        rw [Nat.max_eq_left h2] at h1
        rw [← hi, h1]; exact hab.symm
    · rw [if_neg h1]; exact hi

theorem whole_lab {ns ls : List Nd} (hh : wholeB ns ls = true) {p : Nat} (hp : p < ns.length) : lab ls ls.length p = lab ls ls.length 0 := by
  unfold wholeB at hh
  simp only [Bool.and_eq_true, decide_eq_true_eq] at hh
  have := (fltN_full _ _).1 hh.2 p hp
  simpa using this

theorem walk_three {ns ls : List Nd} {d : Nat} (hh : wholeB ns ls = true) (hd : d < 2 * ls.length) (h2 : 2 ≤ ls.length) : 3 ≤ perN ns ls d := by
  obtain ⟨hw, -, -, -⟩ := whole_win hh
  obtain ⟨p0, p1, p2, p3⟩ := perN_spec hw hd
  refine Classical.byContradiction fun hlt => ?_
  have h12 : perN ns ls d = 1 ∨ perN ns ls d = 2 := by omega
  obtain ⟨a, b, hda, hdb, ha, hb, hab⟩ := dart_nat (ns := ns) hw hd
  rcases h12 with e | e
  · rw [e] at p2
    have := nx_from hw hd
    rw [show nxN ns ls d = d from p2, hda, hdb] at this
    omega
  · rw [e] at p2
    have p2 : nxN ns ls (nxN ns ls d) = d := p2
    have hlt2 := nx_lt hw d hd
    have f1 := nx_from hw hd
    have f2 := nx_from hw hlt2
    rw [p2] at f2
    have ht : nxN ns ls d = tw d := by
      refine Classical.byContradiction fun hne => ?_
      have g1 := dF_tw ls d
      have g2 := dT_tw ls d
      rcases Nat.lt_or_gt_of_ne hne with h | h
      · exact ends_differ hw h (tw_lt hd) f1 g1 (f2.symm.trans g2.symm)
      · exact ends_differ hw h hlt2 g1 f1 (g2.trans f2)
    have a1 := fun x hx hf => nx_alone hw hd ht (x := x) hx hf
    have ht2 : nxN ns ls (tw d) = tw (tw d) := by rw [tw_tw, ← ht, p2]
    have a2 := fun x hx hf => nx_alone hw (tw_lt hd) ht2 (x := x) hx hf
    rw [tw_tw, dT_tw] at a2
    have hj : ∀ j, j < ls.length → (((atN ls j).x = dF ls d ∨ (atN ls j).x = dT ls d ∨ (atN ls j).y = dF ls d ∨ (atN ls j).y = dT ls d)) → j = d / 2 := by
      intro j hj h
      have e1 : dF ls (2 * j) = (atN ls j).x := by unfold dF; rw [if_neg (by omega), show 2 * j / 2 = j by omega]
      have e2 : dF ls (2 * j + 1) = (atN ls j).y := by unfold dF; rw [if_pos (by omega), show (2 * j + 1) / 2 = j by omega]
      have ht := tw_half d
      rcases h with h | h | h | h
      · have := a2 (2 * j) (by omega) (e1.trans h); omega
      · have := a1 (2 * j) (by omega) (e1.trans h); omega
      · have := a2 (2 * j + 1) (by omega) (e2.trans h); omega
      · have := a1 (2 * j + 1) (by omega) (e2.trans h); omega
    have hd2 : d / 2 < ls.length := by omega
    have hxy : ((atN ls (d / 2)).x = dF ls d ∧ (atN ls (d / 2)).y = dT ls d) ∨ ((atN ls (d / 2)).y = dF ls d ∧ (atN ls (d / 2)).x = dT ls d) := by
      unfold dF dT
      by_cases h : d % 2 = 1
      · rw [if_pos h, if_pos h]; exact .inr ⟨rfl, rfl⟩
      · rw [if_neg h, if_neg h]; exact .inl ⟨rfl, rfl⟩
    have hinv := lab_inv ls (fun x => x = a ∨ x = b) ls.length fun j hjl => by
      obtain ⟨p, q, ep, hpq, hp, hq, _⟩ := leadOkB_spec (((winB_iff ns ls).1 hw).2.2 j hjl).1
      have hjj := hj j hjl
      by_cases e : j = d / 2
      · subst e
        rw [ep] at hxy ⊢
        simp only at hxy
        simp only [Int.toNat_natCast]
        rw [hda, hdb] at hxy
        constructor
        · intro _; omega
        · intro _; omega
      · rw [ep] at hjj ⊢
        simp only at hjj
        simp only [Int.toNat_natCast]
        rw [hda, hdb] at hjj
        constructor
        · intro h; exact absurd (hjj (by omega)) e
        · intro h; exact absurd (hjj (by omega)) e
    have hall : ∀ x, x < ns.length → (x = a ∨ x = b) := fun x hx => by
      rw [← hinv x, whole_lab hh hx, ← whole_lab hh ha, hinv a]
      exact .inl rfl
    have hone : ∀ j, j < ls.length → j = d / 2 := fun j hjl => by
      obtain ⟨p, q, ep, hpq, hp, hq, _⟩ := leadOkB_spec (((winB_iff ns ls).1 hw).2.2 j hjl).1
      refine hj j hjl ?_
      rw [ep, hda, hdb]
      simp only
      have := hall p hp
      omega
    have := hone 0 (by omega)
    have := hone 1 (by omega)
    omega

theorem faces_flat {ns ls : List Nd} (hw : winB ns ls = true) : ∀ n, n ≤ 2 * ls.length → (facesN ns ls n).flatten.Nodup ∧ ∀ x, x ∈ (facesN ns ls n).flatten → ∃ q : Nat, x = q ∧ q < 2 * ls.length
  | 0, _ => ⟨by simp [facesN, startsL], fun x hx => by simp [facesN, startsL] at hx⟩
  | n + 1, hn => by
    obtain ⟨h1, h2⟩ := faces_flat hw n (by omega)
    rw [facesN_succ]
    by_cases hs : seenB (facesN ns ls n) (n : Int) = true
    · rw [if_pos hs]; exact ⟨h1, h2⟩
    · rw [if_neg hs, List.flatten_append]
      simp only [List.flatten_cons, List.flatten_nil, List.append_nil]
      refine ⟨?_, fun x hx => ?_⟩
      · rw [List.nodup_append]
        refine ⟨h1, walk_nodup hw (by omega), fun a ha b hb e => ?_⟩
        subst e
        have := faces_new hw (by omega) hs hb
        rw [Bool.eq_false_iff] at this
        refine this ((seenB_iff _ _).2 ?_)
        obtain ⟨r, hr, hx⟩ := List.mem_flatten.1 ha
        exact ⟨r, hr, hx⟩
      · rcases List.mem_append.1 hx with hx | hx
        · exact h2 x hx
        · exact walk_nat hw (by omega) hx

theorem flat_three : ∀ (rs : List (List Int)), (∀ r, r ∈ rs → 3 ≤ r.length) → 3 * rs.length ≤ rs.flatten.length
  | [], _ => by simp
  | r :: t, h => by
    have := flat_three t fun x hx => h x (by simp [hx])
    have := h r (by simp)
    simp only [List.flatten_cons, List.length_append, List.length_cons]
    omega

/-- At most thirteen faces. -/
theorem wF_thirteen (ns ls : List Nd) : (wF ns ls).length ≤ 13 := by
  by_cases hh : wholeB ns ls = true
  · obtain ⟨hw, hl0, hl20, -⟩ := whole_win hh
    rw [wF_whole hh]
    by_cases h2 : 2 ≤ ls.length
    · obtain ⟨h1, hx⟩ := faces_flat hw (2 * ls.length) (Nat.le_refl _)
      have h3 := flat_three (facesN ns ls (2 * ls.length)) fun r hr => by
        obtain ⟨d, hd, rfl⟩ := facesN_row hr
        unfold walkN
        rw [wkL_len]
        exact walk_three hh (by have := startsL_lt ns ls _ _ hd; omega) h2
      have h4 := nodup_le (2 * ls.length) _ h1 hx
      omega
    · have := faces_len ns ls
      unfold facesL at this
      omega
  · unfold wF
    rw [if_neg hh]
    simp

/-- The faces but the wall around are at most twelve. -/
theorem inn_twelve (ns ls : List Nd) : (fltN (fun k => !((k : Int) == outW ns ls)) (wF ns ls).length).length ≤ 12 := by
  have h13 := wF_thirteen ns ls
  have hle := fltN_len (fun k => !((k : Int) == outW ns ls)) (wF ns ls).length
  by_cases hh : wholeB ns ls = true
  · obtain ⟨o, ho, hlt⟩ := outW_is hh
    have hf := fltN_full (fun k => !((k : Int) == outW ns ls)) (wF ns ls).length
    by_cases e : (fltN (fun k => !((k : Int) == outW ns ls)) (wF ns ls).length).length = (wF ns ls).length
    · have := hf.1 e o hlt
      rw [ho] at this
      simp at this
    · omega
  · have : (wF ns ls).length = 0 := by unfold wF; rw [if_neg hh]; rfl
    omega
end Go.Proofs.YtmcbbjobjogkmaaGreat
