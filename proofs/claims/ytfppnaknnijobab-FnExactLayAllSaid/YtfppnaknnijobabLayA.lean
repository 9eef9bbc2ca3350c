/-
  LayAll, of the model and of the program: a list of stains, one behind the other.
-/
import Derived.Test.YtfppnaknnijobabLay
import Derived.Test.YtfppnaknnijobabCol
import Derived.Deep.RegionLaw
namespace Go.Proofs.Ytfppnaknnijobab
open Go.RowKit
set_option linter.unusedVariables false
set_option linter.unusedSimpArgs false

/-- The light behind the first n stains. -/
def layN (xs : List Tr) : Nat → Tr
  | 0 => ⟨1000, 1000, 1000⟩
  | n + 1 => ⟨lay1 (layN xs n).x (atT xs n).x, lay1 (layN xs n).y (atT xs n).y, lay1 (layN xs n).z (atT xs n).z⟩
theorem layN_succ (xs : List Tr) (n : Nat) : layN xs (n + 1) = ⟨lay1 (layN xs n).x (atT xs n).x, lay1 (layN xs n).y (atT xs n).y, lay1 (layN xs n).z (atT xs n).z⟩ := rfl
theorem stain_of {t : Tr} (h1 : 0 ≤ t.x ∧ t.x ≤ 1000) (h2 : 0 ≤ t.y ∧ t.y ≤ 1000) (h3 : 0 ≤ t.z ∧ t.z ≤ 1000) : stainB t = true := (triB_iff _ _ _ _ _ _ _).2 ⟨h1, h2, h3⟩
theorem layN_ok {xs : List Tr} : ∀ n, n ≤ xs.length → (∀ j, j < n → stainB (atT xs j) = true) → stainB (layN xs n) = true
  | 0, _, _ => stain_full
  | n + 1, hn, h => by
    have ih := stain_bd (layN_ok n (by omega) fun j hj => h j (by omega))
    have k := stain_bd (h n (by omega))
    rw [layN_succ]
    exact stain_of (lay_bd ih.1 k.1) (lay_bd ih.2.1 k.2.1) (lay_bd ih.2.2 k.2.2)
def layAB (xs : List Tr) : Bool := decide (xs.length ≤ 20) && stsB xs
def layAT (xs : List Tr) : Tr := if layAB xs = true then layN xs xs.length else ⟨0, 0, 0⟩
theorem layAT_no {xs : List Tr} (h : layAB xs = false) : layAT xs = ⟨0, 0, 0⟩ := if_neg (by rw [h]; simp)
theorem layAT_long {xs : List Tr} (h : 20 < xs.length) : layAT xs = ⟨0, 0, 0⟩ := layAT_no (by unfold layAB; rw [decide_eq_false (by omega)]; rfl)
theorem layAT_bad {xs : List Tr} {k : Nat} (hk : k < xs.length) (h : stainB (atT xs k) = false) : layAT xs = ⟨0, 0, 0⟩ := layAT_no (by unfold layAB; rw [stsB_no hk h]; simp)
theorem layAT_yes {xs : List Tr} (h : xs.length ≤ 20) (h2 : ∀ k, k < xs.length → stainB (atT xs k) = true) : layAT xs = layN xs xs.length := if_pos (by unfold layAB; rw [stsB_yes h2, decide_eq_true h]; rfl)

set_option maxRecDepth 100000 in
theorem specLayAll (xs : List Tr) (v : Value) (w : World) (hv : Trs w v xs) :
    Calls Try.prog 16 #[v] w (TriIs (layAT xs) w) := by
  have HV := Lib.hid hv
  have hlen := hv.len
  obtain ⟨A, c, rfl⟩ := hv.form2
  clear hv
  have HNO := Lib.hid (fun k (hk : k < xs.length) h => layAT_bad hk h)
  have HLG := Lib.hid (fun h => layAT_long (xs := xs) h)
  have HYES := Lib.hid (fun h1 h2 => layAT_yes (xs := xs) h1 h2)
  have HOK := Lib.hid (fun n h1 h2 => layN_ok (xs := xs) n h1 h2)
  have HSU := Lib.hid (layN_succ xs)
  have HZ := Lib.hid (show layN xs 0 = ⟨1000, 1000, 1000⟩ from rfl)
  have HS := Lib.hid (LSt.start w ⟨1000, 1000, 1000⟩)
  generalize layAT xs = r at *
  generalize layN xs = L at *
  go_enter Try.func16, Try.ntmps16
  go_wp2_with fail
  generalize (w.alloc (.cells #[.int .i64 0, .int .i64 0, .int .i64 0] 25)).alloc (.cells #[.int .i64 1000, .int .i64 1000, .int .i64 1000] 25) = W0 at *
  go_loopw [4] (fun i wr => ∃ k : Nat, k ≤ xs.length ∧ i = .int .i64 k ∧ (∀ j, j < k → stainB (atT xs j) = true) ∧ (0 < k → xs.length ≤ 20) ∧ LSt w wr (L k)) (fun i _ => xs.length - (intOf i).toNat)
  case atStart => exact ⟨0, Nat.zero_le _, rfl, fun j hj => by omega, fun h => absurd h (by omega), by rw [HZ.out]; exact HS.out⟩
  case round =>
    clear HS
    obtain ⟨k, hk, rfl, ha, h20, hs⟩ := hrel
    have HA := Lib.hid ha; clear ha
    have H20 := Lib.hid h20; clear h20
    have HS := Lib.hid hs; clear hs
    have HLO := Lib.hid (HOK.out k hk HA.out)
    have hz2 : (0 : Int) ≤ k := by omega
    by_cases hlt : k < xs.length
    · obtain ⟨_, _, he, _, _, hcs⟩ := (HV.out.step HS.out.2.2).form
      injection he with he1 he2 he3
      obtain ⟨b, o, hA, hbl, hc0, hc1, hc2⟩ := hcs k hlt
      rw [← he1] at hA
      subst hA
      clear he1 he2 he3 hcs
      have HST := Lib.hid (specStainOk (atT xs k))
      have HN := Lib.hid (HNO.out k hlt)
      have HNX := Lib.hid (fun (h : stainB (atT xs k) = true) => (fun j (hj : j < k + 1) => (if e : j = k then e ▸ h else HA.out j (by omega)) : ∀ j, j < k + 1 → stainB (atT xs j) = true))
      have HLY := Lib.hid (fun (h : stainB (atT xs k) = true) W => (show Calls Try.prog 68 #[(L k).val, (atT xs k).val] W (TriIs (L (k + 1)) W) from by have := specLay (L k) (atT xs k) W; rw [lay_ok HLO.out h, ← HSU.out k] at this; exact this))
      obtain ⟨l1, l2, l3, hl⟩ : ∃ l1 l2 l3, L k = ⟨l1, l2, l3⟩ := ⟨_, _, _, rfl⟩
      obtain ⟨m1, m2, m3, hm⟩ : ∃ m1 m2 m3, L (k + 1) = ⟨m1, m2, m3⟩ := ⟨_, _, _, rfl⟩
      rw [hl, hm] at HLY
      rw [hl] at HS
      have HM := Lib.hid hm
      have hlt2 : (k : Int) < (xs.length : Int) := by omega
      clear HLO hl hm
      generalize stainB (atT xs k) = d at *
      generalize atT xs k = t at *
      obtain ⟨a1, a2, a3⟩ := t
      unfold TriIs Tr.val at HLY
      unfold Tr.val at HST
      simp only at HST HLY hc0 hc1 hc2
      obtain ⟨k0, k1, kb⟩ := HS.out
      simp only at k1
      have z0 : _ = some (Value.int .i64 0) := (cell_of_cells (k := 0) k0).trans rfl
      have z1 : _ = some (Value.int .i64 0) := (cell_of_cells (k := 1) k0).trans rfl
      have z2 : _ = some (Value.int .i64 0) := (cell_of_cells (k := 2) k0).trans rfl
      have f0 := free_of_cells (k := 0) k0
      have f1 := free_of_cells (k := 1) k0
      have f2 := free_of_cells (k := 2) k0
      have y0 : _ = some (Value.int .i64 _) := (cell_of_cells (k := 0) k1).trans rfl
      have y1 : _ = some (Value.int .i64 _) := (cell_of_cells (k := 1) k1).trans rfl
      have y2 : _ = some (Value.int .i64 _) := (cell_of_cells (k := 2) k1).trans rfl
      have g0 := free_of_cells (k := 0) k1
      have g1 := free_of_cells (k := 1) k1
      have g2 := free_of_cells (k := 2) k1
      clear k0 k1 kb
      go_wp2_with fail
      refine (HST.out _).mono ?_
      rintro e w1 ⟨rfl, hb⟩
      clear z0 z1 z2 f0 f1 f2 y0 y1 y2 g0 g1 g2
      have HS := Lib.hid (HS.out.step hb)
      have c0 := (hb.cell (p := ⟨b, _, none⟩) hbl).trans hc0
      have c1 := (hb.cell (p := ⟨b, _, none⟩) hbl).trans hc1
      have c2 := (hb.cell (p := ⟨b, _, none⟩) hbl).trans hc2
      clear hb hc0 hc1 hc2
      obtain ⟨k0, k1, kb⟩ := HS.out
      simp only at k1
      have z0 : _ = some (Value.int .i64 0) := (cell_of_cells (k := 0) k0).trans rfl
      have z1 : _ = some (Value.int .i64 0) := (cell_of_cells (k := 1) k0).trans rfl
      have z2 : _ = some (Value.int .i64 0) := (cell_of_cells (k := 2) k0).trans rfl
      have f0 := free_of_cells (k := 0) k0
      have f1 := free_of_cells (k := 1) k0
      have f2 := free_of_cells (k := 2) k0
      have y0 : _ = some (Value.int .i64 _) := (cell_of_cells (k := 0) k1).trans rfl
      have y1 : _ = some (Value.int .i64 _) := (cell_of_cells (k := 1) k1).trans rfl
      have y2 : _ = some (Value.int .i64 _) := (cell_of_cells (k := 2) k1).trans rfl
      have g0 := free_of_cells (k := 0) k1
      have g1 := free_of_cells (k := 1) k1
      have g2 := free_of_cells (k := 2) k1
      clear k0 k1 kb
      cases d
      · have HRZ := Lib.hid (HN.out (by trivial))
        go_wp2_with fail
        clear z0 z1 z2 f0 f1 f2 y0 y1 y2 g0 g1 g2
        obtain ⟨k0, k1, kb⟩ := HS.out
        obtain ⟨r0, r1, r2⟩ := put3 k0 (.int .i64 0) (.int .i64 0) (.int .i64 0)
        refine bodyPost_ret (v := .agg #[.int .i64 0, .int .i64 0, .int .i64 0]) (by simp [results, Try.results16, go_sem, r0, r1, r2]) rfl ⟨by rw [HRZ.out]; rfl, ?_⟩
        exact ((kb.setCell (p := ⟨_, _, none⟩) (Nat.le_refl _) _).setCell (p := ⟨_, _, none⟩) (Nat.le_refl _) _).setCell (p := ⟨_, _, none⟩) (Nat.le_refl _) _
      by_cases h20 : 20 < xs.length
      · have HRZ := Lib.hid (HLG.out h20)
        have h20i : (20 : Int) < (xs.length : Int) := by omega
        go_wp2_with fail
        clear z0 z1 z2 f0 f1 f2 y0 y1 y2 g0 g1 g2
        obtain ⟨k0, k1, kb⟩ := HS.out
        obtain ⟨r0, r1, r2⟩ := put3 k0 (.int .i64 0) (.int .i64 0) (.int .i64 0)
        refine bodyPost_ret (v := .agg #[.int .i64 0, .int .i64 0, .int .i64 0]) (by simp [results, Try.results16, go_sem, r0, r1, r2]) rfl ⟨by rw [HRZ.out]; rfl, ?_⟩
        exact ((kb.setCell (p := ⟨_, _, none⟩) (Nat.le_refl _) _).setCell (p := ⟨_, _, none⟩) (Nat.le_refl _) _).setCell (p := ⟨_, _, none⟩) (Nat.le_refl _) _
      have H20' := Lib.hid h20
      have h20i : ¬ (20 : Int) < (xs.length : Int) := by omega
      go_wp2_with fail
      have HSD := Lib.hid (HS.out.step ((Below.refl _ _).drew))
      go_region_law (first | (go_simp; go_at_call 68; refine (HLY.out (by trivial) _).mono ?_; rintro e w5 ⟨rfl, hb5⟩; obtain ⟨-, j1, -⟩ := HSD.out.step hb5; have u0 := free_of_cells (k := 0) j1; have u1 := free_of_cells (k := 1) j1; have u2 := free_of_cells (k := 2) j1; have t0 : _ = some (Value.int .i64 _) := (cell_of_cells (k := 0) j1).trans rfl; have t1 : _ = some (Value.int .i64 _) := (cell_of_cells (k := 1) j1).trans rfl; have t2 : _ = some (Value.int .i64 _) := (cell_of_cells (k := 2) j1).trans rfl) | fail)
      all_goals
        go_wp2_with fail
        exact ⟨⟨k + 1, by omega, by go_num, HNX.out (by trivial), fun _ => by have := H20'.out; omega, by rw [HM.out]; exact (HSD.out.step hb5).put m1 m2 m3⟩, by simp [intOf]; omega⟩
    · obtain rfl : k = xs.length := by omega
      have hrl : r = L xs.length := by
        by_cases h0 : xs.length = 0
        · exact HYES.out (by omega) HA.out
        · exact HYES.out (H20.out (by omega)) HA.out
      have HRZ := Lib.hid hrl; clear hrl
      obtain ⟨m1, m2, m3, hm⟩ : ∃ m1 m2 m3, L xs.length = ⟨m1, m2, m3⟩ := ⟨_, _, _, rfl⟩
      rw [hm] at HS HRZ
      clear HLO hm
      obtain ⟨k0, k1, kb⟩ := HS.out
      simp only at k1
      have z0 : _ = some (Value.int .i64 0) := (cell_of_cells (k := 0) k0).trans rfl
      have z1 : _ = some (Value.int .i64 0) := (cell_of_cells (k := 1) k0).trans rfl
      have z2 : _ = some (Value.int .i64 0) := (cell_of_cells (k := 2) k0).trans rfl
      have f0 := free_of_cells (k := 0) k0
      have f1 := free_of_cells (k := 1) k0
      have f2 := free_of_cells (k := 2) k0
      have y0 : _ = some (Value.int .i64 _) := (cell_of_cells (k := 0) k1).trans rfl
      have y1 : _ = some (Value.int .i64 _) := (cell_of_cells (k := 1) k1).trans rfl
      have y2 : _ = some (Value.int .i64 _) := (cell_of_cells (k := 2) k1).trans rfl
      have g0 := free_of_cells (k := 0) k1
      have g1 := free_of_cells (k := 1) k1
      have g2 := free_of_cells (k := 2) k1
      clear k0 k1 kb
      go_wp2_with fail
      clear z0 z1 z2 f0 f1 f2 y0 y1 y2 g0 g1 g2
      obtain ⟨k0, k1, kb⟩ := HS.out
      obtain ⟨r0, r1, r2⟩ := put3 k0 (.int .i64 m1) (.int .i64 m2) (.int .i64 m3)
      refine bodyPost_ret (v := .agg #[.int .i64 m1, .int .i64 m2, .int .i64 m3]) (by simp [results, Try.results16, go_sem, r0, r1, r2]) rfl ⟨by rw [HRZ.out]; rfl, ?_⟩
      exact ((kb.setCell (p := ⟨_, _, none⟩) (Nat.le_refl _) _).setCell (p := ⟨_, _, none⟩) (Nat.le_refl _) _).setCell (p := ⟨_, _, none⟩) (Nat.le_refl _) _
end Go.Proofs.Ytfppnaknnijobab
