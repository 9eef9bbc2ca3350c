/-
  Several texts in one: a claim has at most 60 files.
-/
import Derived.Test.YtmcbbjobjogkmabGreatG16
import Derived.Test.YtmcbbjobjogkmabGreatRvI

namespace Go.Proofs.YtmcbbjobjogkmabGreat
open Go.RowKit
set_option linter.unusedVariables false
set_option linter.unusedSimpArgs false

/-- The wishes after the last d faces were tried, and the faces that were kept, the last first. -/
noncomputable def bwS (M : Nat → Nat → Bool) (N n : Nat) (Z : List Int) (i : Nat) : List Int := if atZ Z i = -1 then Z else if canB M N n (Z.set i (-1)) = true then Z else Z.set i (-1)

noncomputable def bwZ (M : Nat → Nat → Bool) (N n : Nat) (xs : List Int) : Nat → List Int
  | 0 => xs
  | d + 1 => bwS M N n (bwZ M N n xs d) (N - 1 - d)

noncomputable def bwJ (M : Nat → Nat → Bool) (N n : Nat) (Z : List Int) (i : Nat) : Bool := !decide (atZ Z i = -1) && canB M N n (Z.set i (-1))

noncomputable def bwK (M : Nat → Nat → Bool) (N n : Nat) (xs : List Int) : Nat → List Int
  | 0 => []
  | d + 1 => if bwJ M N n (bwZ M N n xs d) (N - 1 - d) = true then bwK M N n xs d ++ [((N - 1 - d : Nat) : Int)] else bwK M N n xs d

noncomputable def bwL (ns ls : List Nd) (xs : List Int) (a : Int) : List Int := if wgB ns ls xs a = true ∧ fwB ns ls xs a = false then fltN (fun i => decide (0 ≤ atZ (bwZ (besM (atW ns ls) ls.length) (wF ns ls).length a.toNat xs (wF ns ls).length) i)) (wF ns ls).length else []

section

variable {M : Nat → Nat → Bool} {N n : Nat} {xs Z : List Int} {d i : Nat}

theorem bwS_len : (bwS M N n Z i).length = Z.length := by
  unfold bwS; split
  · rfl
  · split
    · rfl
    · exact List.length_set

theorem bwZ_len (hl : xs.length = N) : ∀ d, (bwZ M N n xs d).length = N
  | 0 => hl
  | d + 1 => by show (bwS _ _ _ _ _).length = N; rw [bwS_len, bwZ_len hl d]

theorem bwZ_open (hi : d + i + 1 = N) (h : atZ (bwZ M N n xs d) i = -1) : bwZ M N n xs (d + 1) = bwZ M N n xs d ∧ bwK M N n xs (d + 1) = bwK M N n xs d := by
  have e : N - 1 - d = i := by omega
  refine ⟨?_, ?_⟩
  · show bwS _ _ _ _ _ = _; rw [e]; unfold bwS; rw [if_pos h]
  · show (if bwJ _ _ _ _ _ = true then _ else _) = _
    rw [e, if_neg (by unfold bwJ; simp [h])]

theorem bwZ_yes (hi : d + i + 1 = N) (h : atZ (bwZ M N n xs d) i ≠ -1) (hc : canB M N n ((bwZ M N n xs d).set i (-1)) = true) : bwZ M N n xs (d + 1) = bwZ M N n xs d ∧ bwK M N n xs (d + 1) = bwK M N n xs d ++ [(i : Int)] := by
  have e : N - 1 - d = i := by omega
  refine ⟨?_, ?_⟩
  · show bwS _ _ _ _ _ = _; rw [e]; unfold bwS; rw [if_neg h, if_pos hc]
  · show (if bwJ _ _ _ _ _ = true then _ else _) = _
    rw [e, if_pos (by unfold bwJ; simp [h, hc])]

theorem bwZ_no (hi : d + i + 1 = N) (h : atZ (bwZ M N n xs d) i ≠ -1) (hc : canB M N n ((bwZ M N n xs d).set i (-1)) = false) : bwZ M N n xs (d + 1) = (bwZ M N n xs d).set i (-1) ∧ bwK M N n xs (d + 1) = bwK M N n xs d := by
  have e : N - 1 - d = i := by omega
  refine ⟨?_, ?_⟩
  · show bwS _ _ _ _ _ = _; rw [e]; unfold bwS; rw [if_neg h, if_neg (by rw [hc]; simp)]
  · show (if bwJ _ _ _ _ _ = true then _ else _) = _
    rw [e, if_neg (by unfold bwJ; simp [hc])]

theorem bwS_ge (h : ∀ j, j < Z.length → -1 ≤ atZ Z j) (hi : i < Z.length) : ∀ j, j < Z.length → -1 ≤ atZ (bwS M N n Z i) j := fun j hj => by
  unfold bwS; split
  · exact h j hj
  · split
    · exact h j hj
    · rw [atZ_setI hi]; split
      · omega
      · exact h j hj

theorem bwZ_ge (hl : xs.length = N) (h : ∀ j, j < N → -1 ≤ atZ xs j) : ∀ d, d ≤ N → ∀ j, j < N → -1 ≤ atZ (bwZ M N n xs d) j
  | 0, _ => h
  | d + 1, hd => fun j hj => bwS_ge (by rw [bwZ_len hl]; exact bwZ_ge hl h d (by omega)) (by rw [bwZ_len hl]; omega) j (by rw [bwZ_len hl]; exact hj)

theorem bwK_len : ∀ d, (bwK M N n xs d).length ≤ d
  | 0 => Nat.le_refl _
  | d + 1 => by
    show (if _ then _ else _ : List Int).length ≤ d + 1
    have := bwK_len d
    split
    · simp; omega
    · omega

theorem flt_cons {p q : Nat → Bool} {i0 : Nat} (hp : p i0 = true) (hq : ∀ j, j ≤ i0 → q j = false) (h : ∀ j, j ≠ i0 → p j = q j) : ∀ m, i0 < m → fltN p m = (i0 : Int) :: fltN q m
  | 0, hm => by omega
  | m + 1, hm => by
    rw [fltN_succ, fltN_succ]
    by_cases e : m = i0
    · subst e
      rw [if_pos hp, if_neg (by rw [hq m (Nat.le_refl _)]; simp), fltN_none m fun k hk => by rw [h k (by omega)]; exact hq k (by omega), fltN_none m fun k hk => hq k (by omega)]
      rfl
    · rw [flt_cons hp hq h m (by omega), h m e]
      split <;> simp

theorem bwK_is (hl : xs.length = N) (h : ∀ j, j < N → -1 ≤ atZ xs j) : ∀ d, d ≤ N → (bwK M N n xs d).reverse = fltN (fun j => decide (N - d ≤ j) && decide (0 ≤ atZ (bwZ M N n xs d) j)) N
  | 0, _ => (fltN_none N fun j hj => by simp; omega).symm
  | d + 1, hd => by
    have ih := bwK_is hl h d (by omega)
    obtain ⟨i, hi⟩ : ∃ i, d + i + 1 = N := ⟨N - 1 - d, by omega⟩
    have hge := bwZ_ge (M := M) (n := n) hl h d (by omega) i (by omega)
    have hlen := bwZ_len (M := M) (n := n) hl d
    by_cases ho : atZ (bwZ M N n xs d) i = -1
    · obtain ⟨e1, e2⟩ := bwZ_open hi ho
      rw [e1, e2, ih]
      refine fltN_congr N fun j hj => ?_
      by_cases e : j = i
      · subst e; rw [ho]; simp
      · rw [show decide (N - d ≤ j) = decide (N - (d + 1) ≤ j) from by simp; omega]
    · cases hc : canB M N n ((bwZ M N n xs d).set i (-1))
      · obtain ⟨e1, e2⟩ := bwZ_no hi ho hc
        rw [e1, e2, ih]
        refine fltN_congr N fun j hj => ?_
        rw [atZ_setI (by omega)]
        by_cases e : j = i
        · subst e; rw [if_pos rfl]; simp; omega
        · rw [if_neg e, show decide (N - d ≤ j) = decide (N - (d + 1) ≤ j) from by simp; omega]
      · obtain ⟨e1, e2⟩ := bwZ_yes hi ho hc
        rw [e1, e2, List.reverse_append, ih]
        refine (flt_cons (i0 := i) ?_ ?_ ?_ N (by omega)).symm
        · simp; omega
        · intro j hj; simp; omega
        · intro j hj
          rw [show decide (N - d ≤ j) = decide (N - (d + 1) ≤ j) from by simp; omega]

theorem bwK_fin (hl : xs.length = N) (h : ∀ j, j < N → -1 ≤ atZ xs j) : (bwK M N n xs N).reverse = fltN (fun j => decide (0 ≤ atZ (bwZ M N n xs N) j)) N := by
  rw [bwK_is hl h N (Nat.le_refl _)]
  exact fltN_congr N fun j hj => by simp

end

theorem bwL_len (ns ls : List Nd) (xs : List Int) (a : Int) : (bwL ns ls xs a).length ≤ 20 := by
  unfold bwL
  split
  · have := fltN_len (fun i => decide (0 ≤ atZ (bwZ (besM (atW ns ls) ls.length) (wF ns ls).length a.toNat xs (wF ns ls).length) i)) (wF ns ls).length
    have := wF_thirteen ns ls; omega
  · simp

theorem bwL_no1 {ns ls : List Nd} {xs : List Int} {a : Int} (h : wgB ns ls xs a = false) : bwL ns ls xs a = [] := if_neg (by rw [h]; simp)

theorem bwL_no2 {ns ls : List Nd} {xs : List Int} {a : Int} (h : fwB ns ls xs a = true) : bwL ns ls xs a = [] := if_neg (by rw [h]; simp)

theorem bwL_yes {ns ls : List Nd} {xs : List Int} {a : Int} (n : Nat) (ha : a = n) (h1 : wgB ns ls xs a = true) (h2 : fwB ns ls xs a = false) : bwL ns ls xs a = fltN (fun i => decide (0 ≤ atZ (bwZ (besM (atW ns ls) ls.length) (wF ns ls).length n xs (wF ns ls).length) i)) (wF ns ls).length := by unfold bwL; rw [if_pos ⟨h1, h2⟩, ha]; rfl
end Go.Proofs.YtmcbbjobjogkmabGreat

namespace Go.Proofs.YtmcbbjobjogkmabGreat
open Go.RowKit
set_option linter.unusedVariables false
set_option linter.unusedSimpArgs false

theorem reverseV {w : World} {B : Nat} {v : Value} {xs : List Int} (h : Ints w B v xs) (hB : B ≤ w.heap.size) (hlen : xs.length ≤ 1048576) :
    Calls Tryz.prog 48 #[v] w fun e w' => e = .returned (.tuple #[]) ∧ Ints w' B v xs.reverse ∧ Below B w w' := by
  obtain ⟨A, c, rfl, -⟩ := h.form
  by_cases h0 : xs.length = 0
  · obtain rfl : xs = [] := List.eq_nil_of_length_eq_zero h0
    exact (Any.slices_Reverse_int_empty Tryz.lays112 A c w).mono fun e w' hh => ⟨hh.1, by rw [hh.2]; exact h, by rw [hh.2]; exact Below.refl _ _⟩
  · obtain ⟨g, c', e⟩ := h.some_ (by omega)
    simp only [Value.slice.injEq] at e
    obtain ⟨rfl, -, rfl⟩ := e
    exact reverseInts h hB hlen

set_option maxRecDepth 100000 in
set_option maxHeartbeats 2000000 in
theorem implBad (ns ls : List Nd) (xs : List Int) (vn vl v : Value) (a : Int) (w : World) (hn : Prs w vn ns) (hl : Prs w vl ls) (hv : Seq w v xs) :
    Calls Tryz.prog 25 #[.agg #[vn, vl], v, .int .i64 a] w (IntsNew (bwL ns ls xs a) w) := by
  have HWG := Lib.hid (fun w h1 h2 h3 => implWishG ns ls xs vn vl v a w h1 h2 h3)
  unfold GlassL at HWG
  have HCF := Lib.hid (fun (hok : wgB ns ls xs a = true) (n : Nat) (hn : n ≤ 6) (ys : List Int) (hy : ys.length = (wF ns ls).length) v1 v2 v3 v4 vx B w h1 h2 h3 h4 h5 => implCanFill v1 v2 v3 v4 vx (wF ns ls) (gA ns ls) ys (gN ns ls) (gL ns ls) B B n w h1 h2 h3 h4 h5 (g_len ns ls).1 (g_len ns ls).2 (wF_thirteen ns ls) hy (wg_list hok).2.2.1 hn)
  unfold BoolIs at HCF
  have HN := Lib.hid hn
  have HL := Lib.hid hl
  have HV := Lib.hid hv
  have H0 := Lib.hid (held_pair w vn vl 33)
  obtain ⟨A, c, rfl⟩ := prs_form2 hn
  obtain ⟨A2, c2, rfl⟩ := prs_form2 hl
  obtain ⟨A3, c3, rfl⟩ := seq_form2 hv
  clear hn hl hv
  have HYB := Lib.hid (fun n h1 (h2 : wgB ns ls xs a = true) => (show fwB ns ls xs a = canB (besM (gA ns ls) (gL ns ls).length) (wF ns ls).length n xs from by rw [(gA_whole (wg_list h2).1).1, (gA_whole (wg_list h2).1).2]; exact fwB_yes n h1 h2))
  have HYL := Lib.hid (fun n h1 (h2 : wgB ns ls xs a = true) (h3 : fwB ns ls xs a = false) => (show bwL ns ls xs a = (bwK (besM (gA ns ls) (gL ns ls).length) (wF ns ls).length n xs (wF ns ls).length).reverse from by rw [(gA_whole (wg_list h2).1).1, (gA_whole (wg_list h2).1).2, bwK_fin (wg_list h2).2.1 (wg_list h2).2.2.2]; exact bwL_yes n h1 h2 h3))
  have HLN1 := Lib.hid (fun h => bwL_no1 (ns := ns) (ls := ls) (xs := xs) (a := a) h)
  have HLN2 := Lib.hid (fun h => bwL_no2 (ns := ns) (ls := ls) (xs := xs) (a := a) h)
  have HIN := Lib.hid (show wgB ns ls xs a = true → ∃ n : Nat, a = n ∧ n ≤ 6 from fun h => by have := wg_parts h; exact ⟨a.toNat, by omega, by omega⟩)
  have HXL := Lib.hid (fun h => (wg_list (ns := ns) (ls := ls) (xs := xs) (a := a) h).2.1)
  have h13 := wF_thirteen ns ls
  generalize fwB ns ls xs a = QB at *
  generalize bwL ns ls xs a = QL at *
  generalize wgB ns ls xs a = WG at *
  generalize besM (gA ns ls) (gL ns ls).length = M at *
  generalize gN ns ls = ns' at *
  generalize gL ns ls = ls' at *
  generalize gA ns ls = ds at *
  generalize wF ns ls = rs at *
  obtain ⟨i0, hi, hz0, hz1, hz2⟩ := info_parts infoInt
  have HI := Lib.hid (And.intro hi (And.intro hz0 (And.intro hz1 hz2))); clear hi hz0 hz1 hz2
  go_enter Tryz.func25, Tryz.ntmps25
  obtain ⟨x0, x1, _⟩ := H0.out.1
  go_wp2_with fail
  refine (HWG.out _ (HN.out.step H0.out.below) (HL.out.step H0.out.below) (HV.out.step H0.out.below)).mono ?_
  rintro e w1 ⟨v1, v2, v3, v4, rfl, g1, g2, g3, g4, hb⟩
  have H1 := Lib.hid (H0.out.step hb)
  have hs1 := H1.out.2.1.1
  have GG := Lib.hid (H1.out.new2 w1.heap.size rfl [v1, v2, v3, v4] 61)
  have G0 := Lib.hid (show Held w _ [(w1.heap.size, 0, v1), (w1.heap.size, 1, v2), (w1.heap.size, 2, v3), (w1.heap.size, 3, v4)] from GG.out.only (fun ⟨a, b, c, d, _⟩ => ⟨a, b, c, d, trivial⟩) (fun ⟨a, b, c, d, _⟩ => ⟨a, b, c, d, trivial⟩))
  have bq := below_alloc w1 (.cells #[v1, v2, v3, v4] 61)
  have G1 := Lib.hid (g1.step bq)
  have G2 := Lib.hid (g2.step bq)
  have G3 := Lib.hid (g3.step bq)
  have G4 := Lib.hid (g4.step bq)
  have HB4 := Lib.hid (fun W (h : Below (w1.alloc (.cells #[v1, v2, v3, v4] 61)).heap.size (w1.alloc (.cells #[v1, v2, v3, v4] 61)) W) => And.intro (G1.out.step h) (And.intro (G2.out.step h) (And.intro (G3.out.step h) (G4.out.step h))))
  obtain ⟨A5, c5, rfl⟩ := prs_form2 g1
  obtain ⟨A6, c6, rfl⟩ := prs_form2 g2
  obtain ⟨A7, c7, rfl⟩ := faces_form g3
  obtain ⟨A8, c8, rfl⟩ := ints_form g4
  clear hb g1 g2 g3 g4 x0 x1 bq GG H0 H1
  obtain ⟨x0, x1, x2, x3, _⟩ := G0.out.1
  cases WG
  · have HFL := Lib.hid (HLN1.out (by first | rfl | trivial))
    have BN := G0.out.below
    have BN := Lib.hid BN
    go_wp2_with fail
    go_ret
    exact ⟨_, rfl, by rw [HFL.out]; exact Ints.nil _ _, BN.out⟩
  · obtain ⟨n, rfl, hn6⟩ := HIN.out (by first | rfl | trivial)
    have HB := Lib.hid (HYB.out n rfl (by first | rfl | trivial))
    replace HXL := Lib.hid (HXL.out (by first | rfl | trivial))
    have HCN := Lib.hid (HCF.out (by first | rfl | trivial) n hn6)
    have HCX := Lib.hid (HCN.out xs HXL.out)
    have HYLN := Lib.hid (HYL.out n rfl (by first | rfl | trivial))
    clear HYB HYL HCF HLN1 HIN
    rw [← HB.out] at HCX
    go_wp2_with fail
    refine (HCX.out _ _ _ _ _ _ _ G1.out G2.out G3.out G4.out (HV.out.step G0.out.below)).mono ?_
    rintro e w2 ⟨rfl, hb⟩
    have G5 := Lib.hid (G0.out.step hb)
    have D5 := Lib.hid hb
    clear hb x0 x1 x2 x3
    cases QB
    · have HQL := Lib.hid (HYLN.out (by first | rfl | trivial))
      clear HYLN HLN2 HB HCX
      have HCL := Lib.hid (fun W (hb : Below w.heap.size w W) => cloneInts xs (.slice A3 xs.length c3) W (HV.out.step hb) (by rw [HXL.out]; omega))
      unfold IntsNew at HCL
      have HZL := Lib.hid (fun d => bwZ_len (M := M) (N := rs.length) (n := n) (xs := xs) HXL.out d)
      have HZO := Lib.hid (fun d i hi ho => bwZ_open (M := M) (N := rs.length) (n := n) (xs := xs) (d := d) (i := i) hi ho)
      have HZY := Lib.hid (fun d i hi ho hc => bwZ_yes (M := M) (N := rs.length) (n := n) (xs := xs) (d := d) (i := i) hi ho hc)
      have HZN := Lib.hid (fun d i hi ho hc => bwZ_no (M := M) (N := rs.length) (n := n) (xs := xs) (d := d) (i := i) hi ho hc)
      have HLE := Lib.hid (fun d => bwK_len (M := M) (N := rs.length) (n := n) (xs := xs) d)
      have HZ0 := Lib.hid (show bwZ M rs.length n xs 0 = xs from rfl)
      have HK0 := Lib.hid (show bwK M rs.length n xs 0 = [] from rfl)
      generalize bwZ M rs.length n xs = Z at *
      generalize bwK M rs.length n xs = K at *
      go_wp2_with fail
      refine (HCL.out _ G5.out.below).mono ?_
      rintro e w3 ⟨vy, rfl, hy, hb⟩
      have G6 := Lib.hid (G5.out.step hb)
      have D6 := Lib.hid (D5.out.trans (hb.mono D5.out.size))
      have hsz3 := D6.out.size
      have hg1 : w1.heap.size + 1 ≤ w3.heap.size := by have := D6.out.size; simpa using this
      obtain ⟨ay, cy, rfl, -⟩ := hy.form
      have HY3 := Lib.hid (show Ints w3 (w1.heap.size + 1) (.slice ay xs.length cy) (Z 0) from by rw [HZ0.out]; exact hy.mono (by have := D5.out.size; simpa using this))
      clear hy hb G5 D5
      have HO6 := Lib.hid (Ints.made w3 w3.heap.size w3.heap.size rfl (Nat.le_refl _))
      have G7 := Lib.hid (G6.out.alloc (.cells #[] 3))
      have D7 := Lib.hid (D6.out.trans ((below_alloc w3 (.cells #[] 3)).mono D6.out.size))
      have HY7 := Lib.hid (HY3.out.step (below_alloc w3 (.cells #[] 3)))
      have KY := Lib.hid (fun p e => HY3.out.own p e)
      have hs7 : w3.heap.size ≤ (w3.alloc (.cells #[] 3)).heap.size := by simp
      clear G6 D6 HY3
      go_wp2_with fail
      go_loopw [10, 11] (fun u vi wr => ∃ (d : Nat) (z : Int), z + d + 1 = xs.length ∧ d ≤ xs.length ∧ vi = .int .i64 z ∧ Ints wr w3.heap.size u (K d) ∧ Ints wr (w1.heap.size + 1) (.slice ay xs.length cy) (Z d) ∧ w3.heap.size ≤ wr.heap.size ∧ Below (w1.alloc (.cells #[.slice A5 ns'.length c5, .slice A6 ls'.length c6, .slice A7 rs.length c7, .slice A8 ds.length c8] 61)).heap.size (w1.alloc (.cells #[.slice A5 ns'.length c5, .slice A6 ls'.length c6, .slice A7 rs.length c7, .slice A8 ds.length c8] 61)) wr ∧ Held w wr [(w1.heap.size, 0, .slice A5 ns'.length c5), (w1.heap.size, 1, .slice A6 ls'.length c6), (w1.heap.size, 2, .slice A7 rs.length c7), (w1.heap.size, 3, .slice A8 ds.length c8)]) (fun _ vi _ => (intOf vi + 1).toNat)
      case atStart =>
        have hxs := HXL.out
        exact ⟨0, (xs.length : Int) - 1, by omega, Nat.zero_le _, congrArg (Value.int .i64) (IntWalk.wrap64_in ((xs.length : Int) - 1) (by omega)), by rw [HK0.out]; exact HO6.out, HY7.out, hs7, D7.out, G7.out⟩
      case round =>
        clear G7 D7 HO6 HY7 hs7
        obtain ⟨d, z, hz, hd, rfl, hown, hy, hs3, hdd, hh⟩ := hrel
        have HO := Lib.hid hown; clear hown
        have HY := Lib.hid hy; clear hy
        have HD := Lib.hid hdd; clear hdd
        have H1 := Lib.hid hh; clear hh
        by_cases hlt : 0 ≤ z
        · obtain ⟨i, rfl⟩ : ∃ i : Nat, z = i := ⟨z.toNat, by omega⟩
          have hxs := HXL.out
          have hdi : d + i + 1 = rs.length := by omega
          have q1 : (i : Int) < (xs.length : Int) := by omega
          have q2 : i < xs.length := by omega
          have hzl := HZL.out d
          obtain ⟨gy, cy', hvy⟩ := HY.out.some_ (by rw [hzl]; omega)
          rw [hzl, ← hxs] at hvy
          simp only [Value.slice.injEq] at hvy
          obtain ⟨rfl, -, rfl⟩ := hvy
          obtain ⟨t0, t1, t2, -, -⟩ := HY.out.at_ (j := i) (by rw [hzl, ← hxs]; exact q2)
          have hky := KY.out gy rfl
          have HZOd := Lib.hid (HZO.out d i hdi)
          have HZYd := Lib.hid (HZY.out d i hdi)
          have HZNd := Lib.hid (HZN.out d i hdi)
          have hl := HLE.out d
          have HSX := Lib.hid (show xs.length = (Z d).length from by rw [hzl, hxs])
          have HRS := Lib.hid (show (Z d).set i (atZ (Z d) i) = Z d from by
            have hfl : i < (Z d).length := by rw [hzl]; omega
            have := List.set_getElem_self hfl
            rwa [atZ_get hfl] at this)
          have HCd := Lib.hid (HCN.out ((Z d).set i (-1)) (by rw [List.length_set, hzl]))
          have hd13 : d ≤ 13 := by omega
          have hi13 : i ≤ 13 := by omega
          clear hzl hxs hdi
          generalize atZ (Z d) i = x at *
          by_cases ho : x = -1
          · obtain ⟨e1, e2⟩ := HZOd.out ho
            have E1 := Lib.hid e1
            have E2 := Lib.hid e2
            subst ho
            clear e1 e2
            go_wp2_with fail
            exact ⟨⟨d + 1, (i : Int) - 1, by omega, by omega, by go_num, by rw [E2.out]; exact HO.out, by rw [E1.out]; exact HY.out, hs3, HD.out, H1.out⟩, by first | (simp [intOf]; done) | (simp [intOf]; omega)⟩
          · have e1' : (x == -1) = false := by rw [beq_eq_false_iff_ne]; exact ho
            have e2' : decide (x = -1) = false := by simp [ho]
            have HZY1 := Lib.hid (HZYd.out ho)
            have HZN1 := Lib.hid (HZNd.out ho)
            clear ho HZYd HZNd HZOd
            have HY2 := Lib.hid (HY.out.set_ HSX.out i (-1))
            have H2 := Lib.hid (show Held w (wr.setCell ⟨gy, i, none⟩ (.int .i64 (-1))) _ from H1.out.setN (by refine ⟨?_, ?_, ?_, ?_, trivial⟩ <;> (simp; omega)) (by have := H1.out.below.size; have := hs1; omega))
            have HD2 := Lib.hid (below_setCell (p := ⟨gy, i, none⟩) (x := .int .i64 (-1)) HD.out (by simp; omega))
            have HO2 := Lib.hid (HO.out.keep (w' := wr.setCell ⟨gy, i, none⟩ (.int .i64 (-1))) fun k e => Below.heap_setCell _ _ _ _ (by show k ≠ gy; have := (HO.out.own k e).1; omega))
            obtain ⟨k1, k2, k3, k4⟩ := HB4.out _ HD2.out
            have HC := Lib.hid (HCd.out _ _ _ _ _ _ _ k1 k2 k3 k4 HY2.out.seq)
            clear k1 k2 k3 k4
            obtain ⟨x0, x1, x2, x3, _⟩ := H1.out.1
            generalize canB M rs.length n ((Z d).set i (-1)) = cb at *
            go_wp2_with fail
            refine HC.out.mono ?_
            rintro e w4 ⟨rfl, hb⟩
            have H3 := Lib.hid (H2.out.step hb)
            have HO3 := Lib.hid (HO2.out.step hb)
            have HY3 := Lib.hid (HY2.out.step hb)
            have HD3 := Lib.hid (HD2.out.trans (hb.mono HD2.out.size))
            have hs4 : w3.heap.size ≤ w4.heap.size := by have := hb.size; simp at this; omega
            clear hb x0 x1 x2 x3 t0 t1 t2 H1 H2 HO HO2 HY HY2 HD HD2 HC
            cases cb
            · obtain ⟨e1, e2⟩ := HZN1.out (by first | rfl | trivial)
              have E1 := Lib.hid e1
              have E2 := Lib.hid e2
              clear e1 e2
              go_wp2_with fail
              exact ⟨⟨d + 1, (i : Int) - 1, by omega, by omega, by go_num, by rw [E2.out]; exact HO3.out, by rw [E1.out]; exact HY3.out, hs4, HD3.out, H3.out⟩, by first | (simp [intOf]; done) | (simp [intOf]; omega)⟩
            · obtain ⟨e1, e2⟩ := HZY1.out (by first | rfl | trivial)
              have E1 := Lib.hid e1
              have E2 := Lib.hid e2
              clear e1 e2
              have HSX2 := Lib.hid (show xs.length = ((Z d).set i (-1)).length from by rw [List.length_set]; exact HSX.out)
              obtain ⟨t0, t1, t2, -, -⟩ := HY3.out.at_ (j := i) (by rw [← HSX2.out]; exact q2)
              have HY4 := Lib.hid (HY3.out.set_ HSX2.out i x)
              rw [List.set_set, HRS.out] at HY4
              have H4 := Lib.hid (show Held w (w4.setCell ⟨gy, i, none⟩ (.int .i64 x)) _ from H3.out.setN (by refine ⟨?_, ?_, ?_, ?_, trivial⟩ <;> (simp; omega)) (by omega))
              have HD4 := Lib.hid (below_setCell (p := ⟨gy, i, none⟩) (x := .int .i64 x) HD3.out (by simp; omega))
              have HO4 := Lib.hid (HO3.out.keep (w' := w4.setCell ⟨gy, i, none⟩ (.int .i64 x)) fun k e => Below.heap_setCell _ _ _ _ (by show k ≠ gy; have := (HO3.out.own k e).1; omega))
              have hs5 : w3.heap.size ≤ (w4.setCell ⟨gy, i, none⟩ (.int .i64 x)).heap.size := by rw [heap_setCell_size]; exact hs4
              obtain ⟨au, cu, rfl, -⟩ := HO4.out.form
              obtain ⟨hi, hz0, hz1, hz2⟩ := HI.out
              clear H3 HO3 HY3 HD3
              go_wp2_with (at_builtin; refine wpList_append_own _ rfl _ _ 27 rfl w3.heap.size 3 i0 (.int .i64 0) 1 8 Tryz.underlying27 hi hz0 hz1 hz2 rfl (by decide) _ _ _ rfl (World.ownsRow.alloc HO4.out _) ⟨_, 0, none⟩ 1 1 [.int .i64 i] rfl rfl ?c1 ?c2 ?c3 ?c4 ?c5 ?_)
              try (case c1 => first | exact cell_one_new _ _ _ | (have := cell_one_new (w4.setCell ⟨gy, i, none⟩ (.int .i64 x)) (.int .i64 i) 3; simpa [heap_setCell_size] using this))
              case c2 => simp [Value.oneCell']
              case c3 => unfold maxLen; omega
              case c4 => omega
              case c5 => first | omega | (simp <;> omega)
              intro v' w5 hown hgrow _
              have hgb := grown_below HO4.out hs5 hgrow
              have HO5 := Lib.hid (Ints.more hown)
              have H5 := Lib.hid (H4.out.stepB (B := w3.heap.size) ⟨by omega, by omega, by omega, by omega, trivial⟩ hgb (by omega))
              have HD5 := Lib.hid (HD4.out.trans (hgb.mono (by simp; omega)))
              have HY5 := Lib.hid ((HY4.out.step (below_alloc _ (.cells #[.int .i64 i] 3))).grown hgrow (fun p e e2 => by have h1 := (HO4.out.own p e2).1; have h2 := KY.out p e; omega))
              have hs6 : w3.heap.size ≤ w5.heap.size := Nat.le_trans hs5 hgb.size
              clear hown hgrow hgb hi hz0 hz1 hz2
              go_wp2_with fail
              exact ⟨⟨d + 1, (i : Int) - 1, by omega, by omega, by go_num, by rw [E2.out]; exact HO5.out, by rw [E1.out]; exact HY5.out, hs6, HD5.out, H5.out⟩, by first | (simp [intOf]; done) | (simp [intOf]; omega)⟩
        · obtain rfl : z = -1 := by omega
          obtain rfl : d = xs.length := by omega
          have hxs := HXL.out
          have hkl := HLE.out xs.length
          have HRV := Lib.hid (reverseV HO.out hs3 (by omega))
          have HBW := Lib.hid H1.out.below
          clear hxs hkl
          go_wp2_with fail
          refine HRV.out.mono ?_
          rintro e w4 ⟨rfl, ho4, hb⟩
          go_wp2_with fail
          go_ret
          refine ⟨_, rfl, by rw [HQL.out, ← HXL.out]; exact ho4.mono (by omega), HBW.out.trans (hb.mono (by omega))⟩
    · have HFL := Lib.hid (HLN2.out (by first | rfl | trivial))
      have BN := Lib.hid G5.out.below
      go_wp2_with fail
      go_ret
      exact ⟨_, rfl, by rw [HFL.out]; exact Ints.nil _ _, BN.out⟩
end Go.Proofs.YtmcbbjobjogkmabGreat

namespace Go.Proofs.YtmcbbjobjogkmabGreat
open Go.RowKit
set_option linter.unusedVariables false
set_option linter.unusedSimpArgs false

set_option maxRecDepth 100000 in
set_option maxHeartbeats 1000000 in
theorem specBad (ns ls : List Nd) (xs : List Int) (vn vl v : Value) (a : Int) (w : World) (hn : Prs w vn ns) (hl : Prs w vl ls) (hv : Seq w v xs) :
    Calls Tryz.prog 24 #[.agg #[vn, vl], v, .int .i64 a] w (IntsNew (bwL ns ls xs a) w) := by
  have HFW := Lib.hid (fun w h1 h2 h3 => specFill ns ls xs vn vl v a w h1 h2 h3)
  unfold CwRet at HFW
  have HW := Lib.hid (fun w h1 h2 h3 => specWishOk ns ls xs vn vl v w h1 h2 h3)
  unfold BoolIs at HW
  have HI6 := Lib.hid (fun w => specIn a 1 6 w)
  have HM := Lib.hid (fun w h1 h2 (hh : wholeB ns ls = true) => specMat ns ls vn vl w h1 h2 hh)
  unfold MatNew at HM
  have HA := Lib.hid (fun (n : Nat) (hn : n ≤ 6) (ys : List Int) (hgl : ys.length = (wF ns ls).length) am cm g vg vx B w h1 h2 h3 => specSrchA (besM (atW ns ls) ls.length) (besM_sym (atW ns ls) ls.length) (wF ns ls).length n (wF_thirteen ns ls) hn am cm g ys vg hgl (wF ns ls).length [] vx B w (by simp) h1 h2 h3)
  unfold SrchRet at HA
  have HSO := Lib.hid (fun n (ys : List Int) h1 h2 => (srch_any (M := besM (atW ns ls) ls.length) (N := (wF ns ls).length) (n := n) (xs := ys) (besM_sym (atW ns ls) ls.length) (besM_irr _ _) h1 h2).1)
  have HN := Lib.hid hn
  have HL := Lib.hid hl
  have HV := Lib.hid hv
  have H00 := Lib.hid (held_pair w vn vl 33)
  obtain ⟨A, c, rfl⟩ := prs_form2 hn
  obtain ⟨A2, c2, rfl⟩ := prs_form2 hl
  obtain ⟨A3, c3, rfl⟩ := seq_form2 hv
  clear hn hl hv
  have HNA := Lib.hid (fun h => bwL_no1 (ns := ns) (ls := ls) (xs := xs) (a := a) h)
  have HNB := Lib.hid (fun h => bwL_no2 (ns := ns) (ls := ls) (xs := xs) (a := a) h)
  have HYL := Lib.hid (fun n h1 h2 h3 => bwL_yes (ns := ns) (ls := ls) (xs := xs) (a := a) n h1 h2 h3)
  have HPT := Lib.hid (fun (h : wgB ns ls xs a = true) => wg_list h)
  have HNO1 := Lib.hid (fun h => wg_no1 (ns := ns) (ls := ls) (xs := xs) (a := a) h)
  have HNO2 := Lib.hid (fun h => wg_no2 (ns := ns) (ls := ls) (xs := xs) (a := a) h)
  have HYES := Lib.hid (fun h1 h2 => wg_yes (ns := ns) (ls := ls) (xs := xs) (a := a) h1 h2)
  have HIN := Lib.hid (show inB a 1 6 = true → ∃ n : Nat, a = n ∧ n ≤ 6 from fun h => by have := (inB_iff _ _ _).1 h; exact ⟨a.toNat, by omega, by omega⟩)
  have h13 := wF_thirteen ns ls
  generalize fwB ns ls xs a = QB at *
  generalize fwL ns ls xs a = cs at *
  generalize bwL ns ls xs a = QL at *
  generalize wgB ns ls xs a = WG at *
  generalize listB ns ls (-1) 5 xs = ok at *
  generalize inB a 1 6 = ok2 at *
  generalize besM (atW ns ls) ls.length = M at *
  generalize (wF ns ls).length = N at *
  generalize wholeB ns ls = wh at *
  have H0 := Lib.hid (H00.out.alloc (.cells #[] 3))
  have HX0 := Lib.hid (Ints.made (w.alloc (.cells #[.slice A ns.length c, .slice A2 ls.length c2] 33)) (w.heap.size + 1) (w.heap.size + 1) (by simp) (Nat.le_refl _))
  obtain ⟨i0, hi, hz0, hz1, hz2⟩ := info_parts infoInt
  have HI := Lib.hid (And.intro hi (And.intro hz0 (And.intro hz1 hz2))); clear hi hz0 hz1 hz2 H00
  go_enter Tryz.func24, Tryz.ntmps24
  obtain ⟨x0, x1, _⟩ := H0.out.1
  go_wp2_with fail
  refine (HFW.out _ (HN.out.step H0.out.below) (HL.out.step H0.out.below) (HV.out.step H0.out.below)).mono ?_
  rintro e w1 ⟨⟨vc, rfl, -⟩, hb⟩
  have H1 := Lib.hid (H0.out.step hb)
  have HX1 := Lib.hid (HX0.out.step hb)
  clear hb x0 x1 H0 HX0 HFW
  obtain ⟨x0, x1, _⟩ := H1.out.1
  cases QB
  rotate_left
  · have HF := Lib.hid (HNB.out (by first | rfl | trivial))
    go_wp2_with fail
    go_ret
    exact ⟨_, rfl, by rw [HF.out]; exact HX1.out.mono (Nat.le_succ _), H1.out.below⟩
  · go_wp2_with fail
    refine (HW.out _ (HN.out.step H1.out.below) (HL.out.step H1.out.below) (HV.out.step H1.out.below)).mono ?_
    rintro e w2' ⟨rfl, hb⟩
    replace HX1 := Lib.hid (HX1.out.step hb)
    replace H1 := Lib.hid (H1.out.step hb)
    clear hb x0 x1
    obtain ⟨x0, x1, _⟩ := H1.out.1
    cases ok
    · have HF := Lib.hid (HNA.out (HNO1.out (by first | rfl | trivial)))
      go_wp2_with fail
      go_ret
      exact ⟨_, rfl, by rw [HF.out]; exact HX1.out.mono (Nat.le_succ _), H1.out.below⟩
    · go_wp2_with fail
      refine (HI6.out _).mono ?_
      rintro e w2 ⟨rfl, rfl⟩
      cases ok2
      · have HF := Lib.hid (HNA.out (HNO2.out (by first | rfl | trivial)))
        go_wp2_with fail
        go_ret
        exact ⟨_, rfl, by rw [HF.out]; exact HX1.out.mono (Nat.le_succ _), H1.out.below⟩
      · obtain ⟨n, rfl, hn6⟩ := HIN.out (by first | rfl | trivial)
        have hwg := HYES.out (by first | rfl | trivial) (by first | rfl | trivial)
        obtain ⟨hwh, hxl, hpos, hlow⟩ := HPT.out hwg
        have HXL := Lib.hid hxl
        have HQL := Lib.hid (HYL.out n rfl hwg (by first | rfl | trivial))
        have HWH := Lib.hid hwh
        have HAN := Lib.hid (fun d i => HA.out n hn6 ((bwZ M N n xs d).set i (-1)) (by rw [List.length_set, bwZ_len hxl]))
        have HSN := Lib.hid (fun d (hd : d ≤ N) i => HSO.out n ((bwZ M N n xs d).set i (-1)) (by rw [List.length_set, bwZ_len hxl]) (fun j hj => by
          have hge := bwZ_ge (M := M) (n := n) hxl hlow d hd j hj
          have hlz := bwZ_len (M := M) (n := n) hxl d
          by_cases hfx : i < (bwZ M N n xs d).length
          · rw [atZ_setI hfx]
            split
            · omega
            · exact hge
          · rw [List.set_eq_of_length_le (by omega)]; exact hge))
        have HAM := Lib.hid (fun d (hd : d ≤ N) i am cm g vg vx B w h1 h2 h3 => (show Calls Tryz.prog 31 #[.slice am N cm, vg, .int .i64 n, vx] w (fun e w' => (∃ v, e = .returned (.tuple #[v, .bool (canB M N n ((bwZ M N n xs d).set i (-1)))])) ∧ Below w.heap.size w w') from (HAN.out d i am cm g vg vx B w h1 h2 h3).mono fun e w' h => ⟨h.1.elim fun v hv => ⟨v, by rw [hv.1, HSN.out d hd i]⟩, h.2⟩))
        have HGE := Lib.hid (fun d (hd : d ≤ N) j hj => bwZ_ge (M := M) (n := n) hxl hlow d hd j hj)
        have HZL := Lib.hid (fun d => bwZ_len (M := M) (N := N) (n := n) (xs := xs) hxl d)
        have HZO := Lib.hid (fun d i hi ho => (bwZ_open (M := M) (N := N) (n := n) (xs := xs) (d := d) (i := i) hi ho).1)
        have HZY := Lib.hid (fun d i hi ho hc => (bwZ_yes (M := M) (N := N) (n := n) (xs := xs) (d := d) (i := i) hi ho hc).1)
        have HZN := Lib.hid (fun d i hi ho hc => (bwZ_no (M := M) (N := N) (n := n) (xs := xs) (d := d) (i := i) hi ho hc).1)
        have HZ0 := Lib.hid (show bwZ M N n xs 0 = xs from rfl)
        clear hwg hwh hxl hpos hlow HPT HYL HA HSO HIN HAN HSN HNO1 HNO2 HNA HNB HYES HI6 HW
        generalize hR : (fun i => decide (0 ≤ atZ (bwZ M N n xs N) i)) = FP at *
        have HFP := Lib.hid (fun i => (show FP i = decide (0 ≤ atZ (bwZ M N n xs N) i) from by rw [← hR])); clear hR
        have HU := Lib.hid (fltN_succ FP)
        have HLE := Lib.hid (fltN_len FP)
        have HX0 := Lib.hid (show fltN FP 0 = [] from rfl)
        generalize fltN FP = X at *
        generalize bwZ M N n xs = Z at *
        go_wp2_with fail
        refine (HM.out _ (HN.out.step H1.out.below) (HL.out.step H1.out.below) HWH.out).mono ?_
        rintro e w3 ⟨vm, g, rfl, hm, hb⟩
        have H3 := Lib.hid (H1.out.step hb)
        have HX3 := Lib.hid (HX1.out.step hb)
        have HM3 := Lib.hid (hm.mono (b' := 0) (Nat.zero_le _))
        obtain ⟨am, cm, rfl, -⟩ := hm.form
        clear hm hb x0 x1 H1 HX1
        obtain ⟨hi, hz0, hz1, hz2⟩ := HI.out
        obtain ⟨v', w', hr, ho, hbb⟩ := run_append_seq (P := Tryz.prog) (ty := 27) (B := w3.heap.size) Tryz.underlying27 hi hz0 hz1 hz2 (heap_alloc_new w3 (.cells #[] 3)) (Nat.le_refl _) ((HV.out.step H3.out.below).step (below_alloc w3 (.cells #[] 3))) (by rw [HXL.out]; omega)
        have HD4 := Lib.hid ((below_alloc w3 (.cells #[] 3)).trans (hbb.mono (by simp)))
        obtain ⟨ay, cy, rfl, -⟩ := ho.form
        have HY4 := Lib.hid (show Ints w' w3.heap.size (.slice ay xs.length cy) (Z 0) from by rw [HZ0.out]; exact ho)
        clear ho hbb hi hz0 hz1 hz2
        go_wp2_with (at_builtin; refine wpList_append_run rfl _ _ 27 rfl _ w' hr ?_)
        go_wp2_with fail
        clear hr
        go_loopw [12] (fun vi wr => ∃ (d : Nat) (z : Int), z + d + 1 = xs.length ∧ d ≤ xs.length ∧ vi = .int .i64 z ∧ Ints wr w3.heap.size (.slice ay xs.length cy) (Z d) ∧ Below w3.heap.size w3 wr) (fun vi _ => (intOf vi + 1).toNat)
        case atStart =>
          have hxs := HXL.out
          exact ⟨0, (xs.length : Int) - 1, by omega, Nat.zero_le _, congrArg (Value.int .i64) (IntWalk.wrap64_in ((xs.length : Int) - 1) (by omega)), HY4.out, HD4.out⟩
        case round =>
          clear HY4 HD4
          obtain ⟨d, z, hz, hd, rfl, hy, hdd⟩ := hrel
          have HY := Lib.hid hy; clear hy
          have HD := Lib.hid hdd; clear hdd
          by_cases hlt : 0 ≤ z
          · obtain ⟨i, rfl⟩ : ∃ i : Nat, z = i := ⟨z.toNat, by omega⟩
            have hxs := HXL.out
            have hdi : d + i + 1 = N := by omega
            have q1 : (i : Int) < (xs.length : Int) := by omega
            have q2 : i < xs.length := by omega
            have hzl := HZL.out d
            obtain ⟨gy, cy', hvy⟩ := HY.out.some_ (by rw [hzl]; omega)
            rw [hzl, ← hxs] at hvy
            simp only [Value.slice.injEq] at hvy
            obtain ⟨rfl, -, rfl⟩ := hvy
            obtain ⟨t0, t1, t2, -, -⟩ := HY.out.at_ (j := i) (by rw [hzl, ← hxs]; exact q2)
            have hky := (HY.out.own gy rfl).1
            have HZOd := Lib.hid (HZO.out d i hdi)
            have HZYd := Lib.hid (HZY.out d i hdi)
            have HZNd := Lib.hid (HZN.out d i hdi)
            have HGEd := Lib.hid (HGE.out d (by omega) i (by omega))
            have HSX := Lib.hid (show xs.length = (Z d).length from by rw [hzl, hxs])
            have HRS := Lib.hid (show (Z d).set i (atZ (Z d) i) = Z d from by
              have hfl : i < (Z d).length := by rw [hzl]; omega
              have := List.set_getElem_self hfl
              rwa [atZ_get hfl] at this)
            have HAd := Lib.hid (HAM.out d (by omega) i)
            have hd13 : d ≤ 13 := by omega
            have hi13 : i ≤ 13 := by omega
            clear hzl hxs hdi
            generalize atZ (Z d) i = x at *
            by_cases ho : x < 0
            · have E1 := Lib.hid (HZOd.out (by have := HGEd.out; omega))
              go_wp2_with fail
              exact ⟨⟨d + 1, (i : Int) - 1, by omega, by omega, by go_num, by rw [E1.out]; exact HY.out, HD.out⟩, by first | (simp [intOf]; done) | (simp [intOf]; omega)⟩
            · have HZY1 := Lib.hid (HZYd.out (by omega))
              have HZN1 := Lib.hid (HZNd.out (by omega))
              clear HZYd HZNd HZOd HGEd
              have HY2 := Lib.hid ((HY.out.set_ HSX.out i (-1)))
              have HD2 := Lib.hid (below_setCell (p := ⟨gy, i, none⟩) (x := .int .i64 (-1)) HD.out hky)
              have HM5 := Lib.hid ((HM3.out.step HD2.out).step (below_alloc (wr.setCell ⟨gy, i, none⟩ (.int .i64 (-1))) (.cells #[] 3)))
              have HO5 := Lib.hid (HY2.out.seq.step (below_alloc (wr.setCell ⟨gy, i, none⟩ (.int .i64 (-1))) (.cells #[] 3)))
              have HX5 := Lib.hid (Ints.made (wr.setCell ⟨gy, i, none⟩ (.int .i64 (-1))) wr.heap.size wr.heap.size (by simp) (Nat.le_refl _))
              have HY5 := Lib.hid (HY2.out.step (below_alloc (wr.setCell ⟨gy, i, none⟩ (.int .i64 (-1))) (.cells #[] 3)))
              have HD5 := Lib.hid (HD2.out.trans ((below_alloc (wr.setCell ⟨gy, i, none⟩ (.int .i64 (-1))) (.cells #[] 3)).mono HD2.out.size))
              have HC := Lib.hid (HAd.out am cm g _ _ _ _ HM5.out HO5.out HX5.out)
              generalize canB M N n ((Z d).set i (-1)) = cb at *
              go_wp2_with fail
              refine HC.out.mono ?_
              rintro e w6 ⟨⟨v6, rfl⟩, hb⟩
              have HY6 := Lib.hid (HY5.out.step hb)
              have HD6 := Lib.hid (HD5.out.trans (hb.mono HD5.out.size))
              clear hb t0 t1 t2 HY HY2 HD HD2 HM5 HO5 HX5 HY5 HD5 HC
              cases cb
              · have E1 := Lib.hid (HZN1.out (by first | rfl | trivial))
                go_wp2_with fail
                exact ⟨⟨d + 1, (i : Int) - 1, by omega, by omega, by go_num, by rw [E1.out]; exact HY6.out, HD6.out⟩, by first | (simp [intOf]; done) | (simp [intOf]; omega)⟩
              · have E1 := Lib.hid (HZY1.out (by first | rfl | trivial))
                have HSX2 := Lib.hid (show xs.length = ((Z d).set i (-1)).length from by rw [List.length_set]; exact HSX.out)
                obtain ⟨t0, t1, t2, -, -⟩ := HY6.out.at_ (j := i) (by rw [← HSX2.out]; exact q2)
                have HY7 := Lib.hid (HY6.out.set_ HSX2.out i x)
                rw [List.set_set, HRS.out] at HY7
                have HD7 := Lib.hid (below_setCell (p := ⟨gy, i, none⟩) (x := .int .i64 x) HD6.out hky)
                go_wp2_with fail
                exact ⟨⟨d + 1, (i : Int) - 1, by omega, by omega, by go_num, by rw [E1.out]; exact HY7.out, HD7.out⟩, by first | (simp [intOf]; done) | (simp [intOf]; omega)⟩
          · obtain rfl : z = -1 := by omega
            obtain rfl : d = xs.length := by omega
            clear HAM HZO HZY HZN HM3 HM
            have H4 := Lib.hid (H3.out.step HD.out)
            have HX4 := Lib.hid (show Ints wr (w.heap.size + 1) _ (X 0) from by rw [HX0.out]; exact HX3.out.step HD.out)
            have HYN := Lib.hid (show Ints wr w3.heap.size (.slice ay xs.length cy) (Z N) from by rw [← HXL.out]; exact HY.out)
            have KY := Lib.hid (show ∀ p, (Value.slice ay xs.length cy).ownBlock = some p → w3.heap.size ≤ p ∧ p < wr.heap.size from fun p e => HY.out.own p e)
            have hs3 := H3.out.2.1.1
            have hs3' : w.heap.size + 1 < w3.heap.size := by
              have := (HX3.out.own (w.heap.size + 1) rfl).2; omega
            have HK4 := Lib.hid (show ∀ p, (Value.slice (some ⟨w.heap.size + 1, 0, none⟩) 0 0).ownBlock = some p → p < w3.heap.size ∨ wr.heap.size ≤ p from fun p e => by simp [Value.ownBlock] at e; omega)
            have HZN := Lib.hid (HZL.out N)
            generalize Z N = ys at *
            obtain ⟨C0, hC0⟩ : ∃ C0, C0 = wr.heap.size := ⟨_, rfl⟩
            rw [← hC0] at KY HK4
            have HC0 := Lib.hid hC0; clear hC0
            go_wp2_with fail
            go_loopw [7, 16] (fun u vi wr => ∃ k : Nat, k ≤ N ∧ vi = .int .i64 k ∧ Ints wr (w.heap.size + 1) u (X k) ∧ Ints wr w3.heap.size (.slice ay xs.length cy) ys ∧ (∀ p, u.ownBlock = some p → p < w3.heap.size ∨ C0 ≤ p) ∧ C0 ≤ wr.heap.size ∧ Held w wr [(w.heap.size, 0, .slice A ns.length c), (w.heap.size, 1, .slice A2 ls.length c2)]) (fun _ vi _ => N - (intOf vi).toNat)
            case atStart => exact ⟨0, Nat.zero_le _, rfl, HX4.out, HYN.out, HK4.out, Nat.le_of_eq HC0.out, H4.out⟩
            case round =>
              clear H4 HX4 HYN HK4 HD HY hd hz hlt
              obtain ⟨k, hk, rfl, hown, hy, hkk, hcz, hh⟩ := hrel
              have HO := Lib.hid hown; clear hown
              have HY := Lib.hid hy; clear hy
              have HK := Lib.hid hkk; clear hkk
              have H1 := Lib.hid hh; clear hh
              by_cases hlt : k < N
              · have hxs := HXL.out
                have q1 : (k : Int) < (xs.length : Int) := by omega
                have q2 : k < xs.length := by omega
                have q0 : (0 : Int) ≤ k := by omega
                have hzl := HZN.out
                obtain ⟨gy, cy', hvy⟩ := HY.out.some_ (by rw [hzl]; omega)
                rw [hzl, ← hxs] at hvy
                simp only [Value.slice.injEq] at hvy
                obtain ⟨rfl, -, rfl⟩ := hvy
                obtain ⟨t0, t1, t2, -, -⟩ := HY.out.at_ (j := k) (by rw [hzl]; exact hlt)
                have HUk := Lib.hid (HU.out k)
                rw [HFP.out k] at HUk
                have hl := HLE.out k
                have hk13 : k ≤ 13 := by omega
                clear hzl hxs
                generalize atZ ys k = x at *
                by_cases ho : x ≥ 0
                · have HE := Lib.hid (show X (k + 1) = X k ++ [(k : Int)] from by rw [HUk.out, if_pos (by simp; omega)])
                  have hsz : w.heap.size + 1 ≤ wr.heap.size := by have := H1.out.2.1.1; omega
                  obtain ⟨au, cu, rfl, -⟩ := HO.out.form
                  obtain ⟨hi, hz0, hz1, hz2⟩ := HI.out
                  clear HUk
                  go_wp2_with (at_builtin; refine wpList_append_own_at _ rfl _ _ 27 rfl (w.heap.size + 1) 3 i0 (.int .i64 0) 1 8 Tryz.underlying27 hi hz0 hz1 hz2 rfl (by decide) _ _ _ rfl (World.ownsRow.alloc HO.out _) ⟨_, 0, none⟩ 1 1 [.int .i64 k] rfl rfl ?c1 ?c2 ?c3 ?c4 ?c5 ?_)
                  try (case c1 => exact cell_one_new _ _ _)
                  case c2 => simp [Value.oneCell']
                  case c3 => unfold maxLen; omega
                  case c4 => omega
                  case c5 => first | omega | (simp <;> omega)
                  intro v' w5 hown hgrow _ hat
                  have H4 := Lib.hid (H1.out.stepB (B := w.heap.size + 1) ⟨by simp, by simp, trivial⟩ (grown_below HO.out hsz hgrow) (by omega))
                  have HO4 := Lib.hid (Ints.more hown)
                  have HY4 := Lib.hid ((HY.out.step (below_alloc wr (.cells #[.int .i64 k] 3))).grown hgrow (fun p e e2 => by have h1 := HK.out p e2; have h2 := KY.out p e; omega))
                  have HK4 := Lib.hid (show ∀ p, v'.ownBlock = some p → p < w3.heap.size ∨ C0 ≤ p from fun p e => by
                    rcases hat with h | h
                    · rw [h] at e; exact HK.out p e
                    · rw [h] at e; simp at e; omega)
                  have hz4 : C0 ≤ w5.heap.size := by have := hgrow.size; simp at this; omega
                  clear hown hgrow hat hi hz0 hz1 hz2
                  go_wp2_with fail
                  exact ⟨⟨k + 1, by omega, by go_num, by rw [HE.out]; exact HO4.out, HY4.out, HK4.out, hz4, H4.out⟩, by simp [intOf]; omega⟩
                · have HE := Lib.hid (show X (k + 1) = X k from by rw [HUk.out, if_neg (by simp; omega)])
                  clear HUk
                  go_wp2_with fail
                  exact ⟨⟨k + 1, by omega, by go_num, by rw [HE.out]; exact HO.out, HY.out, HK.out, hcz, H1.out⟩, by simp [intOf]; omega⟩
              · have q1 : ¬ (k : Int) < (xs.length : Int) := by rw [HXL.out]; omega
                obtain rfl : k = N := by omega
                go_wp2_with fail
                go_ret
                exact ⟨_, rfl, by rw [HQL.out]; exact HO.out.mono (Nat.le_succ _), H1.out.below⟩
end Go.Proofs.YtmcbbjobjogkmabGreat
