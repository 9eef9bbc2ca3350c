/-
  slices.Index and slices.Contains at a slice of nodes.
-/
import Derived.Test.YtfppnaknnijobabWinI
namespace Go.Proofs.Ytfppnaknnijobab
open Go.RowKit
set_option linter.unusedVariables false
set_option linter.unusedSimpArgs false

theorem indexNd_any (ns : List Nd) (v : Value) (n : Nd) (w : World) (hv : Prs w v ns) (hlen : ns.length ≤ 1000000) :
    Calls Try.prog 116 #[v, n.val] w (fun e w' => ∃ i : Int, e = .returned (.int .i64 i) ∧ (-1 ≤ i ∧ i ≤ 1000000) ∧ (0 ≤ i ↔ ∃ k, k < ns.length ∧ n = atN ns k) ∧ Below w.heap.size w w') := by
  have HN := Lib.hid hv
  have H0 := Lib.hid (held1 w n 82)
  obtain ⟨A, c, rfl⟩ := prs_form2 hv
  clear hv
  have HQ := Lib.hid (fun k => eqNd n (atN ns k))
  have HV : n.val = .agg #[.int .i64 n.x, .int .i64 n.y] := rfl
  rw [HV]; clear HV
  unfold B1 at H0
  obtain ⟨nx, hnx⟩ : ∃ x, x = n.x := ⟨_, rfl⟩
  obtain ⟨ny, hny⟩ : ∃ x, x = n.y := ⟨_, rfl⟩
  rw [← hnx, ← hny] at H0 HQ ⊢
  have HX := Lib.hid hnx; clear hnx
  have HY := Lib.hid hny; clear hny
  go_enter Try.func116, Try.ntmps116
  go_wp2_with fail
  go_loopw [8] (fun i wr => ∃ k : Nat, k ≤ ns.length ∧ i = .int .i64 k ∧ (∀ j, j < k → n ≠ atN ns j) ∧ Held w wr [(w.heap.size, 0, .int .i64 nx), (w.heap.size, 1, .int .i64 ny)]) (fun i _ => ns.length - (intOf i).toNat)
  case atStart => exact ⟨0, Nat.zero_le _, rfl, fun j hj => by omega, H0.out⟩
  case round =>
    clear H0
    obtain ⟨k, hk, rfl, hno, hh⟩ := hrel
    have HO := Lib.hid hno; clear hno
    have H1 := Lib.hid hh; clear hh
    obtain ⟨x0, x1, _⟩ := H1.out.1
    by_cases hlt : k < ns.length
    · obtain ⟨b, o, c', he, hbl, hcs⟩ := prs_at2 (HN.out.step H1.out.below) hlt
      injection he with he1 he2 he3
      subst he1
      clear he2 he3
      obtain ⟨c0, c1⟩ := hcs k hlt
      have q := HQ.out k
      have HHI := Lib.hid (show n = atN ns k → 0 ≤ (k : Int) ∧ ∃ k, k < ns.length ∧ n = atN ns k from fun h => ⟨by omega, k, hlt, h⟩)
      have HSN := Lib.hid (fun (h : n ≠ atN ns k) => (fun j (hj : j < k + 1) => (if e : j = k then e ▸ h else HO.out j (by omega)) : ∀ j, j < k + 1 → n ≠ atN ns j))
      have HD := Lib.hid (show decide (n = atN ns k) = true ↔ n = atN ns k by simp)
      generalize decide (n = atN ns k) = d at *
      obtain ⟨nk, hnk⟩ : ∃ m, m = atN ns k := ⟨_, rfl⟩
      rw [← hnk] at c0 c1 q
      have HK := Lib.hid hnk; clear hnk hcs
      obtain ⟨kx, ky⟩ := nk
      simp only at c0 c1 q
      have hz1 : (k : Int) < (ns.length : Int) := by omega
      have hz2 : (0 : Int) ≤ k := by omega
      cases d
      · go_wp2_with fail
        go_quiet (fail)
        go_wp2_with fail
        exact ⟨⟨k + 1, by omega, by go_num, HSN.out (fun e => by have := HD.out.2 e; cases this), H1.out.drewN _⟩, by simp [intOf]; omega⟩
      · go_wp2_with fail
        go_quiet (fail)
        go_wp2_with fail
        go_ret
        exact ⟨k, rfl, by omega, ⟨fun _ => ⟨k, hlt, HD.out.1 trivial⟩, fun _ => by omega⟩, (H1.out.drewN _).below⟩
    · go_wp2_with fail
      go_ret
      exact ⟨-1, rfl, by omega, ⟨fun h => by omega, fun ⟨j, hj, e⟩ => absurd e (HO.out j (by omega))⟩, H1.out.below⟩

theorem containsNd_any (ns : List Nd) (A : Option Addr) (c k : Nat) (n : Nd) (w : World) (hv : Prs w (.slice A ns.length c) ns) (hk : k ≤ ns.length) (hlen : ns.length ≤ 1000000) :
    Calls Try.prog 97 #[.slice A k c, n.val] w (BoolIs (inFirst ns k n) w) := by
  have hp := prs_take hv hk
  have hl2 : (ns.take k).length ≤ 1000000 := by rw [List.length_take]; omega
  have H0 := Lib.hid (held1 w n 82)
  have hlk : (ns.take k).length = k := by rw [List.length_take]; omega
  have HC := Lib.hid (fun W hb => indexNd_any (ns.take k) (.slice A k c) n W (hp.step hb) hl2)
  have HI := Lib.hid (fun (i : Int) (h : 0 ≤ i ↔ ∃ j, j < (ns.take k).length ∧ n = atN (ns.take k) j) => (show inFirst ns k n = decide (0 ≤ i) by
    rw [Bool.eq_iff_iff, inFirst_iff, decide_eq_true_iff, h, hlk]
    constructor
    · rintro ⟨j, hj, rfl⟩; exact ⟨j, hj, (atN_take hj).symm⟩
    · rintro ⟨j, hj, e⟩; exact ⟨j, hj, by rw [e, atN_take hj]⟩))
  generalize inFirst ns k n = r at *
  obtain ⟨nx, ny⟩ := n
  unfold Nd.val at HC ⊢
  unfold B1 at H0
  simp only at H0 HC
  clear hp hl2 hlk hv
  go_enter Try.func97, Try.ntmps97
  go_wp2_with fail
  refine (HC.out _ H0.out.below).mono ?_
  rintro e w1 ⟨i, rfl, hbd, hi, hb⟩
  have HH := Lib.hid (HI.out i hi); clear hi
  have H1 := Lib.hid (H0.out.step hb); clear hb
  go_wp2_with fail
  go_ret
  exact ⟨ret_bool HH.out.symm, H1.out.below⟩
end Go.Proofs.Ytfppnaknnijobab
