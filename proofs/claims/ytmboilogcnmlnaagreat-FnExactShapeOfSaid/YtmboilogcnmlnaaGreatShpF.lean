/-
  Shapes of the model: which lists are valid, and the list that is settled; turned and mirrored ones of both sides.
-/
import Derived.Test.YtmboilogcnmlnaaGreatShpS
namespace Go.Proofs.YtmboilogcnmlnaaGreat
open Go.RowKit
set_option linter.unusedVariables false
set_option linter.unusedSimpArgs false

theorem shp_no {xs : List Nd} {k : Nat} (hk : k < xs.length) (h : okB (atN xs k) = false) : shpB xs = false := by
  by_cases hr : shpB xs = true
  · have := ((shpB_iff xs).1 hr).2 k hk
    rw [h] at this
    cases this
  · simpa using hr

theorem shp_nil {xs : List Nd} (h : xs.length = 0) : shpB xs = false := by
  by_cases hr : shpB xs = true
  · have := ((shpB_iff xs).1 hr).1
    omega
  · simpa using hr

set_option maxRecDepth 100000 in
theorem implOnAll (xs : List Nd) (v : Value) (w : World) (hv : Prs w v xs) : Calls Tryz.prog 184 #[v] w (BoolIs (xs.all okB) w) := by
  have hlen := hv.len
  have HN := Lib.hid hv
  obtain ⟨A, c, rfl⟩ := prs_form2 hv
  clear hv
  have HR := Lib.hid (show xs.all okB = true ↔ ∀ k, k < xs.length → okB (atN xs k) = true from by
    rw [List.all_eq_true]
    exact ⟨fun h k hk => h _ (atN_mem hk), fun h n hn => by
      obtain ⟨k, hk, rfl⟩ := List.getElem_of_mem hn
      rw [atN_get hk]
      exact h k hk⟩)
  generalize xs.all okB = r at *
  go_enter Tryz.func184, Tryz.ntmps184
  go_wp2_with fail
  go_loopw [7] (fun i wr => ∃ m : Nat, m ≤ xs.length ∧ i = .int .i64 m ∧ (∀ j, j < m → okB (atN xs j) = true) ∧ Held w wr []) (fun i _ => xs.length - (intOf i).toNat)
  case atStart => exact ⟨0, Nat.zero_le _, rfl, fun j hj => by omega, Held.none_ w⟩
  case round =>
    obtain ⟨m, hm, rfl, ha, hh⟩ := hrel
    have HA := Lib.hid ha; clear ha
    have H1 := Lib.hid hh; clear hh
    by_cases hlt : m < xs.length
    · obtain ⟨bb, o, c', he, hbl, hcs⟩ := prs_at2 (HN.out.step H1.out.below) hlt
      injection he with he1 he2 he3
      subst he1
      obtain ⟨p0, p1⟩ := hcs m hlt
      clear hcs he2 he3
      have HS := Lib.hid (implOnBoard (atN xs m))
      have HN2 := Lib.hid (fun (h : okB (atN xs m) = false) => (show r = false from by
        by_cases hr : r = true
        · have := HR.out.1 hr m hlt
          rw [h] at this; cases this
        · simpa using hr))
      have HNX := Lib.hid (fun (h : okB (atN xs m) = true) => (fun j (hj : j < m + 1) => (if e : j = m then e ▸ h else HA.out j (by omega)) : ∀ j, j < m + 1 → okB (atN xs j) = true))
      have hz1 : (m : Int) < (xs.length : Int) := by omega
      have hz2 : (0 : Int) ≤ m := by omega
      generalize okB (atN xs m) = d at *
      generalize atN xs m = n at *
      obtain ⟨nx, ny⟩ := n
      unfold Nd.val at HS
      simp only at HS p0 p1
      have H2 := Lib.hid (H1.out.alloc (.cells #[.int .i64 nx, .int .i64 ny] 39))
      cases d
      · go_wp2_with fail
        refine (HS.out _).mono ?_
        rintro e wH3 ⟨rfl, hb⟩
        have H3 := Lib.hid ((H2.out).step hb); clear hb
        go_wp2_with fail
        go_ret
        exact ⟨ret_bool (HN2.out trivial).symm, H3.out.below⟩
      · go_wp2_with fail
        refine (HS.out _).mono ?_
        rintro e wH3 ⟨rfl, hb⟩
        have H3 := Lib.hid ((H2.out).step hb); clear hb
        go_wp2_with fail
        exact ⟨⟨m + 1, by omega, by go_num, HNX.out trivial, H3.out⟩, by simp [intOf]; omega⟩
    · obtain rfl : m = xs.length := by omega
      go_wp2_with fail
      go_ret
      exact ⟨ret_bool (HR.out.2 HA.out).symm, H1.out.below⟩

end Go.Proofs.YtmboilogcnmlnaaGreat
