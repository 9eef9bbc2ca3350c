/-
  Several texts in one: a claim has at most 60 files.
-/
import Derived.Test.YtepacoacalhdcaaGreatG21
import Derived.WalkMore
import Derived.Test.YtepacoacalhdcaaGreatG37
import Derived.Deep.RegionLaw
import Derived.Deep.AppendLies
import Derived.Test.YtepacoacalhdcaaGreatMat
import Derived.Test.YtepacoacalhdcaaGreatG12

namespace Go.Proofs.YtepacoacalhdcaaGreat
open Go.RowKit
set_option linter.unusedVariables false
set_option linter.unusedSimpArgs false

theorem heldC (w : World) (v1 v2 v3 : Value) (T : TypeId) : Held w (w.alloc (.cells #[v1, v2, v3] T)) [(w.heap.size, 0, v1), (w.heap.size, 1, v2), (w.heap.size, 2, v3)] := (Held.none_ w).new2 w.heap.size rfl [v1, v2, v3] T

set_option maxRecDepth 100000 in
set_option maxHeartbeats 4000000 in
theorem implChoices (vb vc : Value) (us : List Value) (rs : List (List Int)) (xs : List Int) (n f B B2 : Nat) (w : World) (hb : FaceV w B vb us rs) (hc : Ints w B2 vc xs) (hf : f < rs.length) (hr : ∀ j, j < (atR rs f).length → ∃ q : Nat, atZ (atR rs f) j = q ∧ q < xs.length) (hn : n ≤ 40) (hrl : (atR rs f).length ≤ 40) (hxl : xs.length ≤ 40) (hfl : rs.length ≤ 40) :
    Calls Tryz.prog 114 #[.agg #[vb, vc, .int .i64 n], .int .i64 f] w (IntsNew (chL (atR rs f) xs n) w) := by
  obtain ⟨gb, cb, rfl⟩ := hb.some_ (by omega)
  obtain ⟨hcell, hgb⟩ := hb.cellAt hf
  have HROW := Lib.hid (hb.each f hf)
  have HHIT := Lib.hid (fun c j => freeJ_hit (row := atR rs f) (xs := xs) (c := c) (j := j))
  have HNON := Lib.hid (fun c => freeJ_none (row := atR rs f) (xs := xs) (c := c))
  unfold chL
  have HR := Lib.hid hr; clear hr
  obtain ⟨ar, cr, hvr, -⟩ := HROW.out.form
  rw [hvr] at hcell HROW
  clear hvr
  generalize atR rs f = row at *
  obtain ⟨ac, cc, rfl, -⟩ := hc.form
  have HC := Lib.hid hc; clear hc
  have HU := Lib.hid (fltN_succ (freeJ row xs))
  have HLN := Lib.hid (fltN_len (freeJ row xs))
  have HZ := Lib.hid (show fltN (freeJ row xs) 0 = [] from rfl)
  generalize hp : freeJ row xs = p at *
  generalize hX : fltN p = X at *
  clear hp hX
  have H0 := Lib.hid (heldC w (.slice (some ⟨gb, 0, none⟩) rs.length cb) (.slice ac xs.length cc) (.int .i64 n) 133)
  have q1 : (0 : Int) ≤ f := by omega
  have q2 : (f : Int) < (rs.length : Int) := by omega
  obtain ⟨i0, hi, hz0, hz1, hz2⟩ := info_parts infoInt
  have HI := Lib.hid (And.intro hi (And.intro hz0 (And.intro hz1 hz2))); clear hi hz0 hz1 hz2
  have HCL := Lib.hid (And.intro hcell hgb); clear hcell hgb
  clear hb
  go_enter Tryz.func114, Tryz.ntmps114
  obtain ⟨x0, x1, x2, _⟩ := H0.out.1
  go_wp2_with fail
  go_step3
  go_wp2_with fail
  go_step3
  go_wp2_with fail
  clear x0 x1 x2
  go_loopw [5, 12] (fun u i wr => ∃ k : Nat, k ≤ n ∧ i = .int .i64 k ∧ Ints wr (w.heap.size + 1) u (X k) ∧ Held w wr [(w.heap.size, 0, .slice (some ⟨gb, 0, none⟩) rs.length cb), (w.heap.size, 1, .slice ac xs.length cc), (w.heap.size, 2, .int .i64 n)]) (fun _ i _ => n - (intOf i).toNat)
  case atStart => exact ⟨0, Nat.zero_le _, rfl, by rw [HZ.out]; exact Ints.made _ _ _ (by simp) (Nat.le_refl _), H0.out.alloc _⟩
  case round =>
    clear H0
    obtain ⟨k, hk, rfl, hown, hh⟩ := hrel
    have HO := Lib.hid hown; clear hown
    have H1 := Lib.hid hh; clear hh
    obtain ⟨x0, x1, x2, _⟩ := H1.out.1
    by_cases hlt : k < n
    · have q3 : (0 : Int) ≤ k := by omega
      have q4 : (k : Int) < (n : Int) := by omega
      have hln := HLN.out k
      have c0 := (H1.out.below.cell (p := ⟨gb, f, none⟩) HCL.out.2).trans HCL.out.1
      have HUK := Lib.hid (HU.out k)
      have HHK := Lib.hid (HHIT.out k)
      have HNK := Lib.hid (HNON.out k)
      generalize hpk : p k = b at *
      clear hpk
      go_wp2_with fail
      go_loopw [21] (fun i wq => ∃ j : Nat, j ≤ row.length ∧ i = .int .i64 j ∧ (∀ j', j' < j → atZ xs (atZ row j').toNat ≠ (k : Int)) ∧ wq = wr) (fun i _ => row.length - (intOf i).toNat)
      case atStart => exact ⟨0, Nat.zero_le _, rfl, fun j' hj => by omega, rfl⟩
      case round =>
        obtain ⟨j, hj, rfl, hno, rfl⟩ := hrel
        have HNO := Lib.hid hno; clear hno
        by_cases hjr : j < row.length
        · have HR1 := Lib.hid (HROW.out.step H1.out.below)
          obtain ⟨gr, cr2, hvr⟩ := HR1.out.some_ (by omega)
          simp only [Value.slice.injEq] at hvr
          obtain ⟨rfl, -, rfl⟩ := hvr
          obtain ⟨y0, -, y1, -, -⟩ := HR1.out.at_ hjr
          obtain ⟨q, hq, hqx⟩ := HR.out j hjr
          have HC1 := Lib.hid (HC.out.step H1.out.below)
          obtain ⟨gc, cc2, hvc⟩ := HC1.out.some_ (by omega)
          simp only [Value.slice.injEq] at hvc
          obtain ⟨rfl, -, rfl⟩ := hvc
          obtain ⟨z0, -, z1, -, -⟩ := HC1.out.at_ hqx
          rw [hq] at y0
          have HNX := Lib.hid (fun (h : atZ xs q ≠ (k : Int)) j' (hj' : j' < j + 1) => (show atZ xs (atZ row j').toNat ≠ (k : Int) from by
            by_cases e : j' = j
            · subst e; rw [hq]; exact h
            · exact HNO.out j' (by omega)))
          have HHT := Lib.hid (fun (h : atZ xs q = (k : Int)) => HHK.out j hjr (by rw [hq]; exact h))
          have p1 : (0 : Int) ≤ j := by omega
          have p2 : (j : Int) < (row.length : Int) := by omega
          have p3 : (0 : Int) ≤ q := by omega
          have p4 : (q : Int) < (xs.length : Int) := by omega
          clear hq
          by_cases hx : atZ xs q = (k : Int)
          · have hbf := HHT.out hx
            rw [hx] at z0
            subst hbf
            go_wp2_with fail
            exact ⟨⟨k + 1, by omega, by go_num, by rw [HUK.out]; exact HO.out, H1.out⟩, by simp [intOf]; omega⟩
          · have HN2 := Lib.hid (HNX.out hx)
            have e1 : (atZ xs q == (k : Int)) = false := by rw [beq_eq_false_iff_ne]; exact hx
            have e2 : decide (atZ xs q = (k : Int)) = false := by simp [hx]
            go_wp2_with fail
            exact ⟨⟨j + 1, by omega, by go_num, HN2.out, by first | rfl | trivial⟩, by simp [intOf]; omega⟩
        · obtain rfl : j = row.length := by omega
          have hbt : b = true := HNK.out HNO.out
          subst hbt
          obtain ⟨hi, hz0, hz1, hz2⟩ := HI.out
          have hsz1 := H1.out.2.1.1
          go_wp2_with (at_builtin; refine wpList_append_own _ rfl _ _ 27 rfl (w.heap.size + 1) 3 i0 (.int .i64 0) 1 8 Tryz.underlying27 hi hz0 hz1 hz2 rfl (by decide) _ _ _ rfl (World.ownsRow.alloc HO.out _) ⟨_, 0, none⟩ 1 1 [.int .i64 k] rfl rfl ?c1 ?c2 ?c3 ?c4 ?c5 ?_)
          try (case c1 => exact cell_one_new _ _ _)
          case c2 => simp [Value.oneCell']
          case c3 => unfold maxLen; omega
          case c4 => omega
          case c5 => first | omega | (simp <;> omega)
          intro v' w5 hown hgrow _
          have H5 := Lib.hid (H1.out.stepB (B := w.heap.size + 1) ⟨Nat.lt_succ_self _, Nat.lt_succ_self _, Nat.lt_succ_self _, trivial⟩ (grown_below HO.out hsz1 hgrow) (Nat.le_succ _))
          have HO5 := Lib.hid (Ints.more hown); clear hown hgrow
          go_wp2_with fail
          exact ⟨⟨k + 1, by omega, by go_num, by rw [HUK.out]; exact HO5.out, H5.out⟩, by simp [intOf]; omega⟩
    · obtain rfl : k = n := by omega
      go_wp2_with fail
      go_ret
      exact ⟨_, rfl, HO.out.mono (Nat.le_succ _), H1.out.below⟩
end Go.Proofs.YtepacoacalhdcaaGreat

namespace Go.Proofs.YtepacoacalhdcaaGreat
open Go.RowKit
set_option linter.unusedVariables false
set_option linter.unusedSimpArgs false

def gath (R : Nat → List Int) (n : Nat) : List (List Int) := (List.range n).map R

theorem gath_len (R : Nat → List Int) (n : Nat) : (gath R n).length = n := by simp [gath]

theorem gath_succ (R : Nat → List Int) (n : Nat) : gath R (n + 1) = gath R n ++ [R n] := by simp [gath, List.range_succ]

theorem gath_at (R : Nat → List Int) {n k : Nat} (h : k < n) : atR (gath R n) k = R k := by simp [gath, atR, List.getD, h]

theorem FaceV.heap_ {w w' : World} {B : Nat} {v : Value} {us : List Value} {rs : List (List Int)} (h : FaceV w B v us rs) (hk : ∀ k, B ≤ k → k < w.heap.size → (v.ownBlock = some k ∨ ∃ j, j < rs.length ∧ (atV us j).ownBlock = some k) → w'.heap[k]? = w.heap[k]?) : FaceV w' B v us rs :=
  ⟨h.row.keep fun k e => hk k (h.row.own k e).1 (h.row.own k e).2 (.inl e), h.len, fun j hj => (h.each j hj).keep fun k e => hk k ((h.each j hj).own k e).1 ((h.each j hj).own k e).2 (.inr ⟨j, hj, e⟩), h.asc⟩

/-- The rows of the faces beside, and a row of colors, in memory of the call's own. -/
structure Cls (W : World) (B : Nat) (vb vc : Value) (us : List Value) (rs : List (List Int)) (xs : List Int) : Prop where
  rows : FaceV W B vb us rs
  cols : Ints W B vc xs
  apart : ∀ j, j < rs.length → ∀ p, (atV us j).ownBlock = some p → vc.ownBlock ≠ some p

section

variable {W W' : World} {B : Nat} {vb vc : Value} {us : List Value} {rs : List (List Int)} {xs : List Int}

theorem Cls.step (h : Cls W B vb vc us rs xs) (hb : Below W.heap.size W W') : Cls W' B vb vc us rs xs := ⟨h.rows.step hb, h.cols.step hb, h.apart⟩

theorem Cls.mono (h : Cls W B vb vc us rs xs) {b : Nat} (hb : b ≤ B) : Cls W b vb vc us rs xs := ⟨h.rows.mono hb, h.cols.mono hb, h.apart⟩

theorem Cls.put (h : Cls W B vb vc us rs xs) {b : Nat} (hb : b < B) (o : Nat) (x : Value) : Cls (W.setCell ⟨b, o, none⟩ x) B vb vc us rs xs :=
  ⟨h.rows.heap_ fun k h1 _ _ => Below.heap_setCell _ _ _ _ (by show k ≠ b; omega), h.cols.keep fun k e => Below.heap_setCell _ _ _ _ (by show k ≠ b; have := (h.cols.own k e).1; omega), h.apart⟩

theorem Cls.row {W5 W6 : World} {u v' : Value} {r : List Int} {T : TypeId} (h : Cls W B vb vc us rs xs) (hb5 : Below W.heap.size W W5) (hu : Ints W5 W.heap.size u r) (hBW : B ≤ W.heap.size)
    (hg : (W5.alloc (.cells #[u] T)).grownBy W6 vb.ownBlock) (hown : W6.ownsRow B 27 1 v' (us.length + 1) (us ++ [u])) : Cls W6 B v' vc (us ++ [u]) (rs ++ [r]) xs := by
  have hA := h.step (hb5.trans ((Below.refl _ W5).alloc hb5.size (.cells #[u] T)))
  refine ⟨hA.rows.more ((hu.step (below_alloc _ _)).mono hBW) (fun j hj p q hp hq => by have h1 := ((h.rows.each j hj).own p hp).2; have h2 := (hu.own q hq).1; omega) hg hown, hA.cols.grown hg (fun k e => hA.rows.row.far hA.cols e), fun j hj p hp e => ?_⟩
  by_cases hj2 : j < rs.length
  · rw [atV_old (by rw [h.rows.len]; exact hj2)] at hp
    exact h.apart j hj2 p hp e
  · have e2 : j = us.length := by rw [h.rows.len]; simp at hj; omega
    subst e2
    rw [atV_new] at hp
    have h1 := (hu.own p hp).1
    have h2 := (h.cols.own p e).2
    omega

theorem Cls.col {W6 : World} {g cap : Nat} {z : Int} {T : TypeId} (h : Cls W B vb vc us rs xs) (hg : (W.alloc (.cells #[.int .i64 z] T)).grownBy W6 vc.ownBlock) (hat : vc.ownBlock = some g ∨ g = W.heap.size + 1)
    (hown : W6.ownsRow B 3 1 (.slice (some ⟨g, 0, none⟩) (xs.length + 1) cap) (xs.length + 1) (xs.map (fun x => Value.int .i64 x) ++ [.int .i64 z])) : Cls W6 B vb (.slice (some ⟨g, 0, none⟩) (xs.length + 1) cap) us rs (xs ++ [z]) := by
  have hA := h.step (below_alloc W (.cells #[.int .i64 z] T))
  refine ⟨hA.rows.heap_ fun k h1 h2 e => hg.block k h2 fun e3 => ?_, Ints.more hown, fun j hj p hp e => ?_⟩
  · rcases e with e | ⟨j, hj, e⟩
    · exact hA.rows.row.far hA.cols e3.symm e
    · exact hA.apart j hj k e e3.symm
  · simp [Value.ownBlock] at e
    subst e
    rcases hat with e2 | e2
    · exact h.apart j hj _ hp e2
    · have := ((h.rows.each j hj).own _ hp).2
      omega

end

theorem ownsRow_below_ {w w' : World} {B : Nat} {t : TypeId} {s n : Nat} {v : Value} {vs : List Value} (h : w.ownsRow B t s v n vs) (hb : Below w.heap.size w w') : w'.ownsRow B t s v n vs :=
  World.ownsRow.kept h (row := none) ⟨hb.os, hb.tape, hb.output, hb.size, fun k hk _ => hb.block k (by omega)⟩ (by cases v.ownBlock <;> simp)

/-- A block that may be written. -/
def Frz (W : World) (b : Nat) : Prop := (∀ o, W.frozen? ⟨b, o, none⟩ = false) ∧ b < W.heap.size

theorem Frz.step {W W' : World} {b : Nat} (h : Frz W b) (hb : Below W.heap.size W W') : Frz W' b := ⟨fun o => (hb.frozen (p := ⟨b, o, none⟩) h.2).trans (h.1 o), Nat.lt_of_lt_of_le h.2 hb.size⟩

theorem Frz.grown {W W' : World} {b : Nat} {row : Option Nat} (h : Frz W b) (hg : W.grownBy W' row) (hr : row ≠ some b) : Frz W' b := ⟨fun o => (hg.frozen_far ⟨b, o, none⟩ h.2 (Ne.symm hr)).trans (h.1 o), Nat.lt_of_lt_of_le h.2 hg.size⟩

theorem Frz.put {W : World} {b : Nat} (h : Frz W b) (p : Addr) (x : Value) : Frz (W.setCell p x) b := ⟨fun o => (World.frozen?_setCell _ _ _ _).trans (h.1 o), by rw [heap_setCell_size]; exact h.2⟩

theorem Frz.made (W : World) (vs : Array Value) (T : TypeId) (b : Nat) (hb : b = W.heap.size) : Frz (W.alloc (.cells vs T)) b := by
  subst hb
  refine ⟨fun o => ?_, by simp⟩
  have h := heap_alloc_new W (.cells vs T)
  generalize W.alloc (.cells vs T) = W' at *
  simp [World.frozen?, h]

/-- One cell of three in view is written. -/
theorem Held.at0 {w W : World} {fs : List (Nat × Nat × Value)} {b : Nat} {x y z : Value} (h : Held w W ((b, 0, x) :: (b, 1, y) :: (b, 2, z) :: fs)) (hn : Nblk b fs) (hb : w.heap.size ≤ b) (x' : Value) : Held w (W.setCell ⟨b, 0, none⟩ x') ((b, 0, x') :: (b, 1, y) :: (b, 2, z) :: fs) :=
  ⟨⟨World.cell?_setCell_same W _ x' h.1.1, (World.cell?_setCell_other W _ _ x' (fun e => by injection e with _ e _; cases e)).trans h.1.2.1, (World.cell?_setCell_other W _ _ x' (fun e => by injection e with _ e _; cases e)).trans h.1.2.2.1, h.1.2.2.2.setFar hn⟩, by rw [heap_setCell_size]; exact h.2.1, below_setCell h.2.2 hb⟩

theorem Held.at1 {w W : World} {fs : List (Nat × Nat × Value)} {b : Nat} {x y z : Value} (h : Held w W ((b, 0, x) :: (b, 1, y) :: (b, 2, z) :: fs)) (hn : Nblk b fs) (hb : w.heap.size ≤ b) (y' : Value) : Held w (W.setCell ⟨b, 1, none⟩ y') ((b, 0, x) :: (b, 1, y') :: (b, 2, z) :: fs) :=
  ⟨⟨(World.cell?_setCell_other W _ _ y' (fun e => by injection e with _ e _; cases e)).trans h.1.1, World.cell?_setCell_same W _ y' h.1.2.1, (World.cell?_setCell_other W _ _ y' (fun e => by injection e with _ e _; cases e)).trans h.1.2.2.1, h.1.2.2.2.setFar hn⟩, by rw [heap_setCell_size]; exact h.2.1, below_setCell h.2.2 hb⟩

theorem Held.at2 {w W : World} {fs : List (Nat × Nat × Value)} {b : Nat} {x y z : Value} (h : Held w W ((b, 0, x) :: (b, 1, y) :: (b, 2, z) :: fs)) (hn : Nblk b fs) (hb : w.heap.size ≤ b) (z' : Value) : Held w (W.setCell ⟨b, 2, none⟩ z') ((b, 0, x) :: (b, 1, y) :: (b, 2, z') :: fs) :=
  ⟨⟨(World.cell?_setCell_other W _ _ z' (fun e => by injection e with _ e _; cases e)).trans h.1.1, (World.cell?_setCell_other W _ _ z' (fun e => by injection e with _ e _; cases e)).trans h.1.2.1, World.cell?_setCell_same W _ z' h.1.2.2.1, h.1.2.2.2.setFar hn⟩, by rw [heap_setCell_size]; exact h.2.1, below_setCell h.2.2 hb⟩

/-- What blank hands back. -/
def BlankRet (R : Nat → List Int) (n : Nat) (sh : Int) (w : World) (e : Ending) (w' : World) : Prop :=
  ∃ vb vc us, e = .returned (.agg #[vb, vc, .int .i64 sh]) ∧ Cls w' w.heap.size vb vc us (gath R n) (List.replicate n (-1)) ∧ Below w.heap.size w w'

set_option maxRecDepth 100000 in
set_option maxHeartbeats 4000000 in
theorem implBlank (v1 v2 v3 v4 : Value) (rs : List (List Int)) (ds : List Int) (ns ls : List Nd) (B B2 : Nat) (sh : Int) (w : World) (hn : Prs w v1 ns) (hl : Prs w v2 ls) (hf : Faces w B v3 rs) (ha : Ints w B2 v4 ds) (hk : ds.length = 2 * ls.length) (hd : ls.length ≤ 20) (h40 : rs.length ≤ 40) :
    Calls Tryz.prog 113 #[.agg #[v1, v2, v3, v4], .int .i64 sh] w (BlankRet (fun k => fltN (fun h => decide ((k : Int) ≠ (h : Int)) && decide (0 < (fltN (sharedP ds k h) ls.length).length)) rs.length) rs.length sh w) := by
  have HBS := Lib.hid (fun (k : Nat) W hb => implBesG v1 v2 v3 v4 rs ds ns ls B B2 k W (hn.step hb) (hl.step hb) (hf.step hb) (ha.step hb) hk hd h40)
  unfold IntsNew at HBS
  obtain ⟨A, c, rfl⟩ := prs_form2 hn
  obtain ⟨A2, c2, rfl⟩ := prs_form2 hl
  obtain ⟨A3, c3, rfl⟩ := faces_form hf
  obtain ⟨A4, c4, rfl⟩ := ints_form ha
  clear hn hl hf ha hk
  generalize hR : (fun k : Nat => fltN (fun h => decide ((k : Int) ≠ (h : Int)) && decide (0 < (fltN (sharedP ds k h) ls.length).length)) rs.length) = R at *
  have HBS := Lib.hid (fun (k : Nat) W (hb : Below w.heap.size w W) => (show Calls Tryz.prog 126 #[.agg #[.slice A ns.length c, .slice A2 ls.length c2, .slice A3 rs.length c3, .slice A4 ds.length c4], .int .i64 k] W (fun e w' => ∃ v, e = .returned v ∧ Ints w' W.heap.size v (R k) ∧ Below W.heap.size W w') from by rw [← hR]; exact HBS.out k W hb))
  clear hR
  have HG0 := Lib.hid (gath_len R)
  have HG1 := Lib.hid (gath_succ R)
  have HGZ := Lib.hid (show gath R 0 = [] from rfl)
  unfold BlankRet
  generalize gath R = G at *
  obtain ⟨i0, hi, hz0, hz1, hz2⟩ := info_parts infoInt
  have HI := Lib.hid (And.intro hi (And.intro hz0 (And.intro hz1 hz2))); clear hi hz0 hz1 hz2
  obtain ⟨i1, hi, hz0, hz1, hz2⟩ := info_parts infoRow
  have HJ := Lib.hid (And.intro hi (And.intro hz0 (And.intro hz1 hz2))); clear hi hz0 hz1 hz2
  have Ha := Lib.hid (heldG w (.slice A ns.length c) (.slice A2 ls.length c2) (.slice A3 rs.length c3) (.slice A4 ds.length c4) 98)
  have Hb := Lib.hid (Ha.out.new2 (w.heap.size + 1) (by simp) [.slice none 0 0, .slice none 0 0, .int .i64 0] 133)
  have Hc := Lib.hid (Hb.out.new2 (w.heap.size + 2) (by simp) [.slice none 0 0, .slice none 0 0, .int .i64 sh] 133)
  have F1 := Lib.hid ((Frz.made (w.alloc (.cells #[.slice A ns.length c, .slice A2 ls.length c2, .slice A3 rs.length c3, .slice A4 ds.length c4] 98)) #[.slice none 0 0, .slice none 0 0, .int .i64 0] 133 (w.heap.size + 1) (by simp)).step (below_alloc _ (.cells #[.slice none 0 0, .slice none 0 0, .int .i64 sh] 133)))
  have F2 := Lib.hid (Frz.made ((w.alloc (.cells #[.slice A ns.length c, .slice A2 ls.length c2, .slice A3 rs.length c3, .slice A4 ds.length c4] 98)).alloc (.cells #[.slice none 0 0, .slice none 0 0, .int .i64 0] 133)) #[.slice none 0 0, .slice none 0 0, .int .i64 sh] 133 (w.heap.size + 2) (by simp))
  go_enter Tryz.func113, Tryz.ntmps113
  obtain ⟨x0, x1, x2, x3, x4, x5, x6, x7, x8, x9, _⟩ := Hc.out.1
  go_wp2_with fail
  clear x0 x1 x2 x3 x4 x5 x6 x7 x8 x9
  go_loopw [12] (fun i wr => ∃ (k : Nat) (vb vc : Value) (us : List Value), k ≤ rs.length ∧ i = .int .i64 k ∧ Cls wr (w.heap.size + 3) vb vc us (G k) (List.replicate k (-1)) ∧ Frz wr (w.heap.size + 1) ∧ Frz wr (w.heap.size + 2) ∧ Held w wr [(w.heap.size + 2, 0, vb), (w.heap.size + 2, 1, vc), (w.heap.size + 2, 2, .int .i64 sh), (w.heap.size + 1, 0, .slice none 0 0), (w.heap.size + 1, 1, .slice none 0 0), (w.heap.size + 1, 2, .int .i64 0), (w.heap.size, 0, .slice A ns.length c), (w.heap.size, 1, .slice A2 ls.length c2), (w.heap.size, 2, .slice A3 rs.length c3), (w.heap.size, 3, .slice A4 ds.length c4)]) (fun i _ => rs.length - (intOf i).toNat)
  case atStart => exact ⟨0, _, _, [], Nat.zero_le _, rfl, by rw [HGZ.out]; exact ⟨FaceV.nil _ _, Ints.nil _ _, fun j hj => by simp at hj⟩, F1.out, F2.out, Hc.out⟩
  case round =>
    clear Ha Hb Hc F1 F2
    obtain ⟨k, vb, vc, us, hk, rfl, hcl, hf1, hf2, hh⟩ := hrel
    have HC := Lib.hid hcl; clear hcl
    have F1 := Lib.hid hf1; clear hf1
    have F2 := Lib.hid hf2; clear hf2
    have H1 := Lib.hid hh; clear hh
    have HLEN := Lib.hid (show us.length = k from by rw [HC.out.rows.len, HG0.out])
    obtain ⟨ab, cb, rfl, -⟩ := HC.out.rows.form
    rw [HG0.out] at HC H1
    obtain ⟨ac, cc, rfl, -⟩ := HC.out.cols.form
    simp only [List.length_replicate] at HC H1
    obtain ⟨x0, x1, x2, x3, x4, x5, x6, x7, x8, x9, _⟩ := H1.out.1
    have hsz := H1.out.2.1.1
    by_cases hlt : k < rs.length
    · have q1 : (0 : Int) ≤ k := by omega
      have q2 : (k : Int) < (rs.length : Int) := by omega
      have hBL : Below w.heap.size w wr.drew := H1.out.below.drew
      have hz3 : w.heap.size + 2 < wr.drew.heap.size := hsz
      have hu1 : us.length ≤ 40 := by have := HLEN.out; omega
      have f0 := F2.out.1 0
      obtain ⟨hi, hz0, hz1, hz2⟩ := HJ.out
      have hrow := Lib.hid HC.out.rows.row
      have hne : (Value.slice ab k cb).ownBlock ≠ some (w.heap.size + 2) := fun e => by have := (HC.out.rows.row.own _ e).1; omega
      have HUL := HLEN.out
      have HRW := Lib.hid (show wr.ownsRow (w.heap.size + 3) 27 1 (.slice ab k cb) k us from by have := HC.out.rows.row; unfold RowV at this; rw [HUL] at this; exact this)
      have HULH := Lib.hid HUL; clear HUL hrow
      go_wp2_with fail
      go_region_law (first
        | (go_simp
           go_at_call 126
           refine (HBS.out k _ hBL).mono ?_
           rintro e w5 ⟨vr, rfl, hm5, hb5⟩
           obtain ⟨a9, c9, rfl⟩ := ints_form hm5
           have k5 := (hb5.cell (p := ⟨w.heap.size + 2, 0, none⟩) hz3).trans x0
           have g5 := (hb5.frozen (p := ⟨w.heap.size + 2, 0, none⟩) hz3).trans f0
           have hz5 : w.heap.size + 2 < w5.heap.size := Nat.lt_of_lt_of_le hz3 hb5.size)
        | ((refine step_append_lies _ (by rfl) _ _ _ (by rfl) (w.heap.size + 3) 27 i1 (.slice none 0 0) 1 24 Tryz.underlying90 hi hz0 hz1 hz2 rfl (by omega) (.slice ab k cb) k us (by rfl) (World.ownsRow.alloc (ownsRow_below_ HRW.out ((Below.refl _ _).drew.trans hb5)) _) ⟨w5.heap.size, 0, none⟩ 1 1 [.slice a9 (R k).length c9] (by rfl) (by rfl) (World.news_of_block (cs := #[.slice a9 (R k).length c9]) (t := 27) (fr := (0, 0)) (heap_alloc_new w5 _)) (by simp [Value.oneCell']) (by omega) (by unfold maxLen; omega) (by omega) (by simp; omega) (w5.heap.size + 1) (by simp) ?_
            intro gg cap w6 hown1 hgrow hat hlt6
            have hb6 := (hb5.trans ((Below.refl _ w5).alloc hb5.size (.cells #[.slice a9 (R k).length c9] 27)))
            have k6 := (hgrow.cell_far ⟨w.heap.size + 2, 0, none⟩ (Nat.lt_of_lt_of_le hz3 hb6.size) (Ne.symm hne)).trans ((hb6.cell (p := ⟨w.heap.size + 2, 0, none⟩) hz3).trans x0)
            have g6 := (hgrow.frozen_far ⟨w.heap.size + 2, 0, none⟩ (Nat.lt_of_lt_of_le hz3 hb6.size) (Ne.symm hne)).trans ((hb6.frozen (p := ⟨w.heap.size + 2, 0, none⟩) hz3).trans f0))))
      all_goals
        have hb7 := (Below.refl _ _).drew.trans hb6
        have hb55 := (Below.refl _ _).drew.trans hb5
        have HC6 := Lib.hid (Cls.row (T := 27) HC.out hb55 hm5 (by omega) hgrow (by rw [HULH.out]; exact hown1))
        have HC7 := Lib.hid (HC6.out.put (b := w.heap.size + 2) (by omega) 0 (.slice (some ⟨gg, 0, none⟩) (k + 1) cap))
        have hrb : ∀ j, (Value.slice ab k cb).ownBlock = some j → w.heap.size + 3 ≤ j := fun j e => (HC.out.rows.row.own j e).1
        have H6 := Lib.hid ((H1.out.step hb7).grown hgrow ⟨fun e => by have := hrb _ e; omega, fun e => by have := hrb _ e; omega, fun e => by have := hrb _ e; omega, fun e => by have := hrb _ e; omega, fun e => by have := hrb _ e; omega, fun e => by have := hrb _ e; omega, fun e => by have := hrb _ e; omega, fun e => by have := hrb _ e; omega, fun e => by have := hrb _ e; omega, fun e => by have := hrb _ e; omega, trivial⟩ (fun j e => by have := hrb _ e; omega))
        have H7 := Lib.hid (H6.out.at0 ⟨by omega, by omega, by omega, by omega, by omega, by omega, by omega, trivial⟩ (by omega) (.slice (some ⟨gg, 0, none⟩) (k + 1) cap))
        have F17 := Lib.hid (((F1.out.step hb7).grown hgrow (fun e => by have := hrb _ e; omega)).put ⟨w.heap.size + 2, 0, none⟩ (.slice (some ⟨gg, 0, none⟩) (k + 1) cap))
        have F27 := Lib.hid (((F2.out.step hb7).grown hgrow (fun e => by have := hrb _ e; omega)).put ⟨w.heap.size + 2, 0, none⟩ (.slice (some ⟨gg, 0, none⟩) (k + 1) cap))
        clear hm5 hown1 hgrow hat hlt6 hb5 hb6 k5 g5 k6 g6 hb7 hb55 hz5 x0 x1 x2 x3 x4 x5 x6 x7 x8 x9 f0 hi hz0 hz1 hz2 hne hBL hz3 HRW HULH hu1 hrb HC6 H6 HC F1 F2 H1 hsz HJ HLEN
        generalize w6.setCell ⟨w.heap.size + 2, 0, none⟩ (.slice (some ⟨gg, 0, none⟩) (k + 1) cap) = w7 at *
        obtain ⟨hi, hz0, hz1, hz2⟩ := HI.out
        obtain ⟨x0, x1, x2, x3, x4, x5, x6, x7, x8, x9, _⟩ := H7.out.1
        have f1 := F27.out.1 1
        have hz7 : w.heap.size + 3 ≤ w7.heap.size := H7.out.2.1.1
        have hxl : (List.replicate k (-1 : Int)).length ≤ 40 := by rw [List.length_replicate]; omega
        go_wp2_with (at_builtin; refine wpList_append_lies _ rfl _ _ 27 rfl (w.heap.size + 3) 3 i0 (.int .i64 0) 1 8 Tryz.underlying27 hi hz0 hz1 hz2 rfl (by decide) (.slice ac k cc) (List.replicate k (-1 : Int)).length ((List.replicate k (-1 : Int)).map fun x => Value.int .i64 x) rfl (World.ownsRow.alloc HC7.out.cols _) ⟨w7.heap.size, 0, none⟩ 1 1 [.int .i64 (-1)] rfl rfl ?c1 ?c2 (by decide) ?c3 ?c4 ?c5 (w7.heap.size + 1) ?c6 ?_)
        try (case c1 => exact World.news_of_block (cs := #[.int .i64 (-1)]) (heap_alloc_new w7 _))
        case c2 => simp [Value.oneCell']
        case c3 => unfold maxLen; omega
        case c4 => omega
        case c5 => first | (simp; omega) | omega
        case c6 => simp
        intro g8 cap8 w8 hown8 hgrow8 hat8 hlt8
        have hrc : ∀ j, (Value.slice ac k cc).ownBlock = some j → w.heap.size + 3 ≤ j := fun j e => (HC7.out.cols.own j e).1
        have H8 := Lib.hid ((H7.out.step (below_alloc w7 (.cells #[.int .i64 (-1)] 3))).grown hgrow8 ⟨fun e => by have := hrc _ e; omega, fun e => by have := hrc _ e; omega, fun e => by have := hrc _ e; omega, fun e => by have := hrc _ e; omega, fun e => by have := hrc _ e; omega, fun e => by have := hrc _ e; omega, fun e => by have := hrc _ e; omega, fun e => by have := hrc _ e; omega, fun e => by have := hrc _ e; omega, fun e => by have := hrc _ e; omega, trivial⟩ (fun j e => by have := hrc _ e; omega))
        have F18 := Lib.hid ((F17.out.step (below_alloc w7 (.cells #[.int .i64 (-1)] 3))).grown hgrow8 (fun e => by have := hrc _ e; omega))
        have F28 := Lib.hid ((F27.out.step (below_alloc w7 (.cells #[.int .i64 (-1)] 3))).grown hgrow8 (fun e => by have := hrc _ e; omega))
        have HC8 := Lib.hid (by have h := Cls.col (T := 3) (cap := cap8) HC7.out hgrow8 hat8 (by simpa using hown8); rw [List.length_replicate] at h; exact h)
        clear hown8 hgrow8 hat8 hrc x0 x1 x2 x3 x4 x5 x6 x7 x8 x9 f1 H7 HC7 F17 F27
        have k8 := H8.out.1.2.1
        have f8 := F28.out.1 1
        go_wp2_with fail
        exact ⟨⟨k + 1, _, _, _, by omega, by go_num, by rw [HG1.out, List.replicate_succ']; exact HC8.out.put (by omega) 1 _, F18.out.put _ _, F28.out.put _ _, H8.out.at1 ⟨by omega, by omega, by omega, by omega, by omega, by omega, by omega, trivial⟩ (by omega) _⟩, by simp [intOf]; omega⟩
    · obtain rfl : k = rs.length := by omega
      have f0 := F1.out.1 0
      have f1 := F1.out.1 1
      have f2 := F1.out.1 2
      have HX := Lib.hid (H1.out.only (gs := [(w.heap.size + 1, 0, .slice none 0 0), (w.heap.size + 1, 1, .slice none 0 0), (w.heap.size + 1, 2, .int .i64 0)]) (fun h => ⟨h.2.2.2.1, h.2.2.2.2.1, h.2.2.2.2.2.1, trivial⟩) (fun h => ⟨h.2.2.2.1, h.2.2.2.2.1, h.2.2.2.2.2.1, trivial⟩))
      have HZ := Lib.hid (((HX.out.at0 trivial (by omega) (.slice ab rs.length cb)).at1 trivial (by omega) (.slice ac rs.length cc)).at2 trivial (by omega) (.int .i64 sh))
      have HCZ := Lib.hid ((((HC.out.put (b := w.heap.size + 1) (by omega) 0 (.slice ab rs.length cb)).put (b := w.heap.size + 1) (by omega) 1 (.slice ac rs.length cc)).put (b := w.heap.size + 1) (by omega) 2 (.int .i64 sh)).mono (b := w.heap.size) (by omega))
      go_wp2_with fail
      have y0 := HZ.out.1.1
      have y1 := HZ.out.1.2.1
      have y2 := HZ.out.1.2.2.1
      refine bodyPost_ret (v := .agg #[.slice ab rs.length cb, .slice ac rs.length cc, .int .i64 sh]) (by simp [results, Tryz.results113, go_sem, y0, y1, y2]) rfl ?_
      exact ⟨_, _, us, rfl, HCZ.out, HZ.out.below⟩
end Go.Proofs.YtepacoacalhdcaaGreat

namespace Go.Proofs.YtepacoacalhdcaaGreat
open Go.RowKit
set_option linter.unusedVariables false
set_option linter.unusedSimpArgs false

/-- The colors of all faces of a whole window. -/
noncomputable def grdW (ns ls : List Nd) : List Int := if wholeB ns ls = true then grdL (besM (atW ns ls) ls.length) (wF ns ls).length else []

end Go.Proofs.YtepacoacalhdcaaGreat

namespace Go.Proofs.YtepacoacalhdcaaGreat
open Go.RowKit
set_option linter.unusedVariables false
set_option linter.unusedSimpArgs false

theorem grdW_g (ns ls : List Nd) : grdW ns ls = grdL (besM (gA ns ls) (gL ns ls).length) (wF ns ls).length := by
  by_cases hh : wholeB ns ls = true
  · unfold grdW gA gL
    rw [if_pos hh, if_pos hh, if_pos hh]
  · unfold grdW wF
    rw [if_neg hh, if_neg hh]
    rfl

theorem grdW_le (ns ls : List Nd) : (grdW ns ls).length ≤ 20 := by
  rw [grdW_g, grdL_len]
  have := wF_thirteen ns ls
  omega

theorem besR (ds : List Int) (q n : Nat) : (fun k : Nat => fltN (fun h : Nat => decide ((k : Int) ≠ (h : Int)) && decide (0 < (fltN (sharedP ds k h) q).length)) n) = rowM (besM ds q) n := by
  funext k
  unfold rowM
  exact fltN_congr n fun h _ => (besM_sub ds k h q).symm

theorem Held.setN {w W : World} {fs : List (Nat × Nat × Value)} {g o : Nat} {x : Value} (h : Held w W fs) (hn : Nblk g fs) (hg : w.heap.size ≤ g) : Held w (W.setCell ⟨g, o, none⟩ x) fs :=
  ⟨h.1.setFar hn, by rw [heap_setCell_size]; exact h.2.1, below_setCell h.2.2 hg⟩

theorem Cls.setC {W : World} {B g c k n : Nat} {vb : Value} {us : List Value} {rs : List (List Int)} {xs : List Int} (h : Cls W B vb (.slice (some ⟨g, 0, none⟩) n c) us rs xs) (hn : n = xs.length) (z : Int) : Cls (W.setCell ⟨g, k, none⟩ (.int .i64 z)) B vb (.slice (some ⟨g, 0, none⟩) n c) us rs (xs.set k z) := by
  refine ⟨h.rows.heap_ fun j _ _ e => Below.heap_setCell _ _ _ _ ?_, h.cols.set_ hn k z, h.apart⟩
  show j ≠ g
  rintro rfl
  rcases e with e | ⟨i, hi, e⟩
  · exact h.rows.row.far h.cols (k := j) rfl e
  · exact h.apart i hi j e rfl

end Go.Proofs.YtepacoacalhdcaaGreat
