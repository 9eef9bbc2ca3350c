/-
  Walks, plainly: the dart behind a dart on the border of a face, and the way back to the first one.
-/
import Derived.Test.YtghpbdgghliieacStepD
namespace Go.Proofs.Ytghpbdgghliieac
open Go.RowKit
set_option linter.unusedVariables false
set_option linter.unusedSimpArgs false

/-- A list of different numbers below n has at most n of them. -/
theorem nodup_leN : ∀ (n : Nat) (l : List Nat), l.Nodup → (∀ x, x ∈ l → x < n) → l.length ≤ n
  | 0, l, _, h => by
    cases l with
    | nil => simp
    | cons a t => exact absurd (h a (by simp)) (by omega)
  | n + 1, l, hn, h => by
    by_cases hm : n ∈ l
    · have h1 := nodup_leN n (l.erase n) (hn.erase n) (fun x hx => by
        have h2 := h x (List.mem_of_mem_erase hx)
        have h3 : x ≠ n := fun e => by subst e; exact hn.not_mem_erase hx
        omega)
      have := List.length_erase_of_mem hm
      omega
    · have := nodup_leN n l hn (fun x hx => by
        have h2 := h x hx
        have h3 : x ≠ n := fun e => by subst e; exact hm hx
        omega)
      omega
theorem leastP {P : Nat → Prop} : ∀ n, P n → ∃ m, m ≤ n ∧ P m ∧ ∀ j, j < m → ¬ P j := by
  intro n
  induction n using Nat.strongRecOn with
  | ind n ih =>
    intro h
    by_cases hx : ∃ j, j < n ∧ P j
    · obtain ⟨j, hj, hp⟩ := hx
      obtain ⟨m, h1, h2, h3⟩ := ih j hj hp
      exact ⟨m, by omega, h2, h3⟩
    · exact ⟨n, Nat.le_refl _, h, fun j hj hp => hx ⟨j, hj, hp⟩⟩

/-- f, n times. -/
def itN (f : Nat → Nat) : Nat → Nat → Nat
  | 0, a => a
  | n + 1, a => f (itN f n a)
theorem itN_add (f : Nat → Nat) (m a : Nat) : ∀ n, itN f (n + m) a = itN f n (itN f m a)
  | 0 => by simp [itN]
  | n + 1 => by rw [Nat.add_right_comm]; simp [itN, itN_add f m a n]
theorem itN_lt {f : Nat → Nat} {N : Nat} (hf : ∀ x, x < N → f x < N) {a : Nat} (ha : a < N) : ∀ n, itN f n a < N
  | 0 => ha
  | n + 1 => hf _ (itN_lt hf ha n)
theorem itN_inj {f : Nat → Nat} {N : Nat} (hf : ∀ x, x < N → f x < N) (hi : ∀ x y, x < N → y < N → f x = f y → x = y) :
    ∀ n x y, x < N → y < N → itN f n x = itN f n y → x = y
  | 0, x, y, _, _, h => h
  | n + 1, x, y, hx, hy, h => itN_inj hf hi n x y hx hy (hi _ _ (itN_lt hf hx n) (itN_lt hf hy n) h)
/-- A walk that never meets two ways comes back to its first place. -/
theorem backAt {f : Nat → Nat} {N : Nat} (hf : ∀ x, x < N → f x < N) (hi : ∀ x y, x < N → y < N → f x = f y → x = y) {a : Nat} (ha : a < N) :
    ∃ m, 0 < m ∧ m ≤ N ∧ itN f m a = a ∧ ∀ j, 0 < j → j < m → itN f j a ≠ a := by
  have hex : ∃ m, 0 < m ∧ m ≤ N ∧ itN f m a = a := by
    apply Classical.byContradiction
    intro hno
    have hnd : ((List.range (N + 1)).map fun i => itN f i a).Nodup := by
      unfold List.Nodup
      rw [List.pairwise_map]
      refine List.pairwise_lt_range.imp_of_mem ?_
      intro i j hi1 hj1 hij e
      have hj2 := List.mem_range.1 hj1
      have e2 : itN f j a = itN f i (itN f (j - i) a) := by rw [← itN_add]; congr 1; omega
      rw [e2] at e
      exact hno ⟨j - i, by omega, by omega, (itN_inj hf hi i _ _ ha (itN_lt hf ha _) e).symm⟩
    have := nodup_leN N _ hnd (fun x hx => by
      obtain ⟨i, _, rfl⟩ := List.mem_map.1 hx
      exact itN_lt hf ha i)
    simp at this
    omega
  obtain ⟨m0, h1, h2, h3⟩ := hex
  obtain ⟨m, k1, k2, k3⟩ := leastP (P := fun m => 0 < m ∧ itN f m a = a) m0 ⟨h1, h3⟩
  exact ⟨m, k2.1, by omega, k2.2, fun j hj hjm e => k3 j hjm ⟨hj, e⟩⟩

/-- The other dart of a lead. -/
def tw (d : Nat) : Nat := if d % 2 = 1 then d - 1 else d + 1
theorem tw_lt {d n : Nat} (h : d < 2 * n) : tw d < 2 * n := by unfold tw; split <;> omega
theorem tw_inj {d e : Nat} (h : tw d = tw e) : d = e := by unfold tw at h; split at h <;> split at h <;> omega
theorem tw_xor {d : Nat} (h : d < 40) : bits .xor .i64 (d : Int) 1 = (tw d : Nat) := by
  have : ∀ d : Nat, d < 40 → bits .xor .i64 (d : Int) 1 = (tw d : Nat) := by decide +kernel
  exact this d h

theorem insM_perm (lt : Int → Int → Bool) (d : Int) (l : List Int) : ∀ m, (insM lt d l m).Perm (d :: l)
  | 0 => .refl _
  | m + 1 => by
    unfold insM
    split
    · exact insM_perm lt d l m
    · refine List.perm_middle.trans ?_
      rw [List.take_append_drop]
theorem aroL_nodup (ns ls : List Nd) (k : Nat) : ∀ n, (aroL ns ls k n).Nodup
  | 0 => List.nodup_nil
  | n + 1 => by
    unfold aroL
    split
    · unfold insL
      rw [(insM_perm _ _ _ _).nodup_iff, List.nodup_cons]
      refine ⟨fun h => ?_, aroL_nodup ns ls k n⟩
      obtain ⟨d, e, hd, _⟩ := aroL_mem ns ls k n _ h
      omega
    · exact aroL_nodup ns ls k n
theorem atZ_inj {l : List Int} (h : l.Nodup) {i j : Nat} (hi : i < l.length) (hj : j < l.length) (e : atZ l i = atZ l j) : i = j := by
  rw [← atZ_get hi, ← atZ_get hj] at e
  have hp := List.pairwise_iff_getElem.1 h
  rcases Nat.lt_trichotomy i j with hlt | rfl | hlt
  · exact absurd e (hp i j hi hj hlt)
  · rfl
  · exact absurd e.symm (hp j i hj hi hlt)

/-- A step around a node: a dart of the same node; back is one way. -/
theorem step_nat {ns ls : List Nd} {d : Nat} (s : Int) (hw : winB ns ls = true) (hd : d < 2 * ls.length) (hs : s = 1 ∨ s = -1) :
    ∃ (q p r : Nat), stepI ns ls s d = q ∧ q < 2 * ls.length ∧ dF ls q = dF ls d ∧ p < (roundL ns ls d).length ∧ atZ (roundL ns ls d) p = d ∧ r < (roundL ns ls d).length ∧ atZ (roundL ns ls d) r = q ∧ ((p : Int) + s + (roundL ns ls d).length) % ((roundL ns ls d).length : Int) = r := by
  have hh : hasDB ns ls d = true := by unfold hasDB; rw [hw, (idxB_iff _ _).2 (by omega)]; rfl
  obtain ⟨a, b, hda, hdb, ha, hb, -⟩ := dart_nat (ns := ns) hw hd
  obtain ⟨p, hp, h12, hat, hne⟩ := round_place (ns := ns) hw hd
  have hidx := index_of hp hat hne
  obtain ⟨q, hq1, hq2, hq3⟩ := step_rem p (roundL ns ls d).length s hp hs
  have hr : stepI ns ls s d = atZ (roundL ns ls d) q := by
    unfold stepI
    rw [if_pos hh]
    simp only [Int.toNat_natCast]
    rw [hidx, hq1]; rfl
  have he : roundL ns ls d = aroL ns ls a (2 * ls.length) := by unfold roundL; rw [hda]; rfl
  have hq2' := hq2
  rw [he] at hq2'
  obtain ⟨e, h1, h2, h3⟩ := aroL_at hq2'
  rw [← he] at h1
  exact ⟨e, p, q, hr.trans h1, h2, by rw [h3, hda], hp, hat, hq2, h1, hq1⟩
theorem step_inj {ns ls : List Nd} {d e : Nat} {s : Int} (hw : winB ns ls = true) (hd : d < 2 * ls.length) (he : e < 2 * ls.length) (hs : s = 1 ∨ s = -1) (h : stepI ns ls s d = stepI ns ls s e) : d = e := by
  obtain ⟨q, p, r, h1, h2, h3, h4, h5, h6, h7, h8⟩ := step_nat s hw hd hs
  obtain ⟨q', p', r', k1, k2, k3, k4, k5, k6, k7, k8⟩ := step_nat s hw he hs
  have eq : q = q' := by rw [h1, k1] at h; omega
  subst eq
  have er : roundL ns ls e = roundL ns ls d := by unfold roundL; rw [← k3, ← h3]
  rw [er] at k4 k5 k6 k7 k8
  have hnd : (roundL ns ls d).Nodup := by unfold roundL; exact aroL_nodup _ _ _ _
  have err := atZ_inj hnd h6 k6 (h7.trans k7.symm)
  subst err
  generalize (roundL ns ls d).length = n at *
  have : p = p' := by
    rcases hs with rfl | rfl
    · by_cases c1 : p + 1 < n <;> by_cases c2 : p' + 1 < n
      · rw [show ((p : Int) + 1 + n) = ((p + 1 : Nat) : Int) + n by omega, Int.add_emod_right, Int.emod_eq_of_lt (by omega) (by omega)] at h8
        rw [show ((p' : Int) + 1 + n) = ((p' + 1 : Nat) : Int) + n by omega, Int.add_emod_right, Int.emod_eq_of_lt (by omega) (by omega)] at k8
        omega
      · rw [show ((p : Int) + 1 + n) = ((p + 1 : Nat) : Int) + n by omega, Int.add_emod_right, Int.emod_eq_of_lt (by omega) (by omega)] at h8
        rw [show ((p' : Int) + 1 + n) = 0 + (n : Int) + n by omega, Int.add_emod_right, Int.add_emod_right, Int.zero_emod] at k8
        omega
      · rw [show ((p : Int) + 1 + n) = 0 + (n : Int) + n by omega, Int.add_emod_right, Int.add_emod_right, Int.zero_emod] at h8
        rw [show ((p' : Int) + 1 + n) = ((p' + 1 : Nat) : Int) + n by omega, Int.add_emod_right, Int.emod_eq_of_lt (by omega) (by omega)] at k8
        omega
      · omega
    · by_cases c1 : 0 < p <;> by_cases c2 : 0 < p'
      · rw [show ((p : Int) + -1 + n) = ((p - 1 : Nat) : Int) + n by omega, Int.add_emod_right, Int.emod_eq_of_lt (by omega) (by omega)] at h8
        rw [show ((p' : Int) + -1 + n) = ((p' - 1 : Nat) : Int) + n by omega, Int.add_emod_right, Int.emod_eq_of_lt (by omega) (by omega)] at k8
        omega
      · rw [show ((p : Int) + -1 + n) = ((p - 1 : Nat) : Int) + n by omega, Int.add_emod_right, Int.emod_eq_of_lt (by omega) (by omega)] at h8
        rw [show ((p' : Int) + -1 + n) = ((n - 1 : Nat) : Int) by omega, Int.emod_eq_of_lt (by omega) (by omega)] at k8
        omega
      · rw [show ((p : Int) + -1 + n) = ((n - 1 : Nat) : Int) by omega, Int.emod_eq_of_lt (by omega) (by omega)] at h8
        rw [show ((p' : Int) + -1 + n) = ((p' - 1 : Nat) : Int) + n by omega, Int.add_emod_right, Int.emod_eq_of_lt (by omega) (by omega)] at k8
        omega
      · omega
  subst this
  exact Int.ofNat_inj.1 (h5.symm.trans k5)

/-- The dart after d on the border of the face to its left. -/
def nxN (ns ls : List Nd) (d : Nat) : Nat := (stepI ns ls (-1) (tw d)).toNat
def nextI (ns ls : List Nd) (d : Int) : Int := if hasDB ns ls d = true then (nxN ns ls d.toNat : Nat) else -1
theorem nx_step {ns ls : List Nd} {d : Nat} (hw : winB ns ls = true) (hd : d < 2 * ls.length) : stepI ns ls (-1) (tw d) = (nxN ns ls d : Nat) := by
  obtain ⟨q, p, r, h1, _⟩ := step_nat (-1) hw (tw_lt hd) (.inr rfl)
  unfold nxN
  rw [h1]; rfl
theorem nx_lt {ns ls : List Nd} (hw : winB ns ls = true) : ∀ d, d < 2 * ls.length → nxN ns ls d < 2 * ls.length := by
  intro d hd
  obtain ⟨q, p, r, h1, h2, _⟩ := step_nat (-1) hw (tw_lt hd) (.inr rfl)
  unfold nxN
  rw [h1]; exact h2
theorem nx_inj {ns ls : List Nd} (hw : winB ns ls = true) : ∀ d e, d < 2 * ls.length → e < 2 * ls.length → nxN ns ls d = nxN ns ls e → d = e := by
  intro d e hd he h
  refine tw_inj (step_inj hw (tw_lt hd) (tw_lt he) (.inr rfl) ?_)
  rw [nx_step hw hd, nx_step hw he, h]
open Classical in
/-- How many darts the walk from d has. -/
noncomputable def perN (ns ls : List Nd) (d : Nat) : Nat := if h : ∃ m, 0 < m ∧ m ≤ 2 * ls.length ∧ itN (nxN ns ls) m d = d ∧ ∀ j, 0 < j → j < m → itN (nxN ns ls) j d ≠ d then Classical.choose h else 0
theorem perN_spec {ns ls : List Nd} {d : Nat} (hw : winB ns ls = true) (hd : d < 2 * ls.length) :
    0 < perN ns ls d ∧ perN ns ls d ≤ 2 * ls.length ∧ itN (nxN ns ls) (perN ns ls d) d = d ∧ ∀ j, 0 < j → j < perN ns ls d → itN (nxN ns ls) j d ≠ d := by
  have h := backAt (nx_lt hw) (nx_inj hw) hd
  unfold perN
  rw [dif_pos h]
  exact Classical.choose_spec h
/-- The first k darts of the walk from d. -/
def wkL (ns ls : List Nd) (d k : Nat) : List Int := (List.range k).map fun i => ((itN (nxN ns ls) i d : Nat) : Int)
theorem wkL_len (ns ls : List Nd) (d k : Nat) : (wkL ns ls d k).length = k := by simp [wkL]
theorem wkL_succ (ns ls : List Nd) (d k : Nat) : wkL ns ls d (k + 1) = wkL ns ls d k ++ [((itN (nxN ns ls) k d : Nat) : Int)] := by simp [wkL, List.range_succ]
noncomputable def walkN (ns ls : List Nd) (d : Nat) : List Int := wkL ns ls d (perN ns ls d)
noncomputable def walkI (ns ls : List Nd) (d : Int) : List Int := if hasDB ns ls d = true then walkN ns ls d.toNat else []
theorem wkL_at {ns ls : List Nd} {d k : Nat} {i : Nat} (h : i < k) : atZ (wkL ns ls d k) i = ((itN (nxN ns ls) i d : Nat) : Int) := by
  unfold atZ wkL
  simp [List.getD, h]
theorem walkI_len (ns ls : List Nd) (d : Int) : (walkI ns ls d).length ≤ 40 := by
  unfold walkI
  split
  · rename_i h
    obtain ⟨n, rfl, hd, h20, hw⟩ := hasDB_nat h
    have := (perN_spec hw hd).2.1
    unfold walkN
    rw [wkL_len, Int.toNat_natCast]; omega
  · simp
/-- Every dart of a walk is one of the window. -/
theorem walkI_at {ns ls : List Nd} {d : Int} {i : Nat} (h : i < (walkI ns ls d).length) : winB ns ls = true ∧ ∃ q : Nat, atZ (walkI ns ls d) i = q ∧ q < 2 * ls.length := by
  unfold walkI at *
  split at h
  · rename_i hh
    obtain ⟨n, rfl, hd, h20, hw⟩ := hasDB_nat hh
    rw [if_pos hh]
    unfold walkN at *
    rw [wkL_len, Int.toNat_natCast] at h
    rw [Int.toNat_natCast, wkL_at h]
    exact ⟨hw, _, rfl, itN_lt (nx_lt hw) hd i⟩
  · simp at h

/-- Twice the area to the left of the first n darts of a walk. -/
def areaL (ns ls : List Nd) (l : List Int) : Nat → Int
  | 0 => 0
  | n + 1 => areaL ns ls l n + ((atI ns (dF ls (atZ l n).toNat)).x * (atI ns (dT ls (atZ l n).toNat)).y - (atI ns (dF ls (atZ l n).toNat)).y * (atI ns (dT ls (atZ l n).toNat)).x)
end Go.Proofs.Ytghpbdgghliieac
