/-
  Several texts in one: a claim has at most 60 files.
-/
import Derived.Test.YtepacoacalhdcaaGreatG26
import Derived.LoopTactic
import Derived.Test.YtepacoacalhdcaaGreatG6
import Derived.Test.YtepacoacalhdcaaGreatG36
import Derived.Test.YtepacoacalhdcaaGreatG22
import Derived.Laws.AppendOwn
import Derived.Test.YtepacoacalhdcaaGreatGlsT
import Derived.Test.YtepacoacalhdcaaGreatG19

namespace Go.Proofs.YtepacoacalhdcaaGreat
open Go.RowKit
set_option linter.unusedVariables false
set_option linter.unusedSimpArgs false

theorem natCast_pow_two (i : Nat) : ((2 : Int) ^ i) = ((2 ^ i : Nat) : Int) := by simp

theorem wrap_pow {i : Nat} (h : i ≤ 60) : IntKind.i64.wrap ((2 ^ i : Nat) : Int) = ((2 ^ i : Nat) : Int) := by
  have := pow_in h
  generalize 2 ^ i = p at this
  exact IntWalk.i64_in _ (by omega)

set_option maxRecDepth 100000 in
theorem implWith (s i : Nat) (w : World) (hs : s < 4611686018427387904) (hi : i ≤ 60) :
    Calls Tryz.prog 129 #[.int .i64 s, .int .i64 i] w (IntIs ((s ||| 2 ^ i : Nat) : Int) w) := by
  have e1 := shl_one hi
  have e2 := bits_or_nat hs (pow_in hi)
  rw [← natCast_pow_two] at e2
  have p1 : (0 : Int) ≤ i := by omega
  have e3 : ((i : Int)).toNat = i := by omega
  go_enter Tryz.func129, Tryz.ntmps129
  go_wp2_with fail
  go_ret
  exact ⟨by first | rfl | (simp [e1, e2, e3]), Below.refl _ _⟩

set_option maxRecDepth 100000 in
theorem implWithout (s i : Nat) (w : World) (hs : s < 4611686018427387904) (hi : i ≤ 60) :
    Calls Tryz.prog 64 #[.int .i64 s, .int .i64 i] w (IntIs ((subN s (2 ^ i) : Nat) : Int) w) := by
  have e1 := shl_one hi
  have e2 := bits_not_nat hs (pow_in hi)
  rw [← natCast_pow_two] at e2
  have p1 : (0 : Int) ≤ i := by omega
  have e3 : ((i : Int)).toNat = i := by omega
  go_enter Tryz.func64, Tryz.ntmps64
  go_wp2_with fail
  go_ret
  exact ⟨by first | rfl | (simp [e1, e2, e3]), Below.refl _ _⟩

set_option maxRecDepth 100000 in
theorem implHasB (s i : Nat) (w : World) (hs : s < 4611686018427387904) (hi : i ≤ 60) :
    Calls Tryz.prog 128 #[.int .i64 s, .int .i64 i] w (BoolIs (s.testBit i) w) := by
  have e1 := bit_at (s := s) (i := i) hs
  have p1 : (0 : Int) ≤ i := by omega
  have e3 : ((i : Int)).toNat = i := by omega
  have e4 : min i 64 = i := by omega
  generalize s.testBit i = b at *
  go_enter Tryz.func128, Tryz.ntmps128
  cases b
  · go_wp2_with fail
    go_ret
    exact ⟨by first | rfl | (simp [e1, e3, e4]), Below.refl _ _⟩
  · go_wp2_with fail
    go_ret
    exact ⟨by first | rfl | (simp [e1, e3, e4]), Below.refl _ _⟩

set_option maxRecDepth 100000 in
theorem implSetOf (xs : List Int) (v : Value) (w : World) (hv : Seq w v xs) (hx : ∀ k, k < xs.length → ∃ q : Nat, atZ xs k = q ∧ q ≤ 60) :
    Calls Tryz.prog 125 #[v] w (IntIs ((setN xs : Nat) : Int) w) := by
  have hlen := hv.len
  obtain ⟨A, c, rfl, hc1, hc2, hcs⟩ := hv.form
  have HC := Lib.hid hcs; clear hcs hv
  have HX := Lib.hid hx; clear hx
  have HS := Lib.hid (fun k (h : k < xs.length) => setN_succ h)
  have HE := Lib.hid (show setN (xs.take xs.length) = setN xs from by rw [List.take_length])
  have H0 := Lib.hid (show setN (xs.take 0) = 0 from rfl)
  have HL := Lib.hid (fun k => (show setN (xs.take k) < 4611686018427387904 from setN_lt _ _ (fun x hx => by
    obtain ⟨j, hj, rfl⟩ := List.getElem_of_mem hx
    rw [List.length_take] at hj
    rw [List.getElem_take, atZ_get (by omega)]
    obtain ⟨q, hq, hq2⟩ := HX.out j (by omega)
    rw [hq]; simpa using hq2) (by decide)))
  generalize hS : (fun k => setN (xs.take k)) = S at *
  have HSS := Lib.hid (fun k => (show setN (xs.take k) = S k from by rw [← hS])); clear hS
  have HS := Lib.hid (fun k (h : k < xs.length) => (show S (k + 1) = S k ||| 2 ^ (atZ xs k).toNat from by rw [← HSS.out, ← HSS.out]; exact HS.out k h))
  have HE := Lib.hid (show S xs.length = setN xs from by rw [← HSS.out]; exact HE.out)
  have H0 := Lib.hid (show S 0 = 0 from by rw [← HSS.out]; exact H0.out)
  have HL := Lib.hid (fun k => (show S k < 4611686018427387904 from by rw [← HSS.out]; exact HL.out k))
  clear HSS
  generalize setN xs = R at *
  have HW := Lib.hid (fun s i w h1 h2 => implWith s i w h1 h2)
  unfold IntIs at HW
  go_enter Tryz.func125, Tryz.ntmps125
  go_wp2_with fail
  go_loopw [3, 8] (fun s i wr => ∃ k : Nat, k ≤ xs.length ∧ i = .int .i64 k ∧ s = .int .i64 ((S k : Nat) : Int) ∧ Below w.heap.size w wr) (fun _ i _ => xs.length - (intOf i).toNat)
  case atStart => exact ⟨0, Nat.zero_le _, rfl, by rw [H0.out]; rfl, Below.refl _ _⟩
  case round =>
    obtain ⟨k, hk, rfl, rfl, hb⟩ := hrel
    have HB := Lib.hid hb; clear hb
    by_cases hlt : k < xs.length
    · obtain ⟨bb, o, rfl, hbl, hc⟩ := HC.out k hlt
      obtain ⟨q, hq, hq60⟩ := HX.out k hlt
      have hc := hc.trans (show _ = some (Value.int .i64 (atZ xs k)) from rfl)
      have c0 := (HB.out.cell (p := ⟨bb, o + k, none⟩) hbl).trans hc
      rw [hq] at c0
      have hs := HS.out k hlt
      rw [hq, Int.toNat_natCast] at hs
      have HSK := Lib.hid hs
      have hz1 : (k : Int) < (xs.length : Int) := by omega
      have hz2 : (0 : Int) ≤ k := by omega
      have HWK := Lib.hid (HW.out (S k) q wr (HL.out k) hq60)
      clear hc hq hs
      go_wp2_with fail
      refine HWK.out.mono ?_
      rintro e w2 ⟨rfl, hb⟩
      go_wp2_with fail
      exact ⟨⟨k + 1, by omega, by go_num, by rw [HSK.out], HB.out.trans (hb.mono HB.out.size)⟩, by simp [intOf]; omega⟩
    · obtain rfl : k = xs.length := by omega
      go_wp2_with fail
      go_ret
      exact ⟨by rw [HE.out]; rfl, HB.out⟩
end Go.Proofs.YtepacoacalhdcaaGreat

namespace Go.Proofs.YtepacoacalhdcaaGreat
open Go.RowKit
set_option linter.unusedVariables false
set_option linter.unusedSimpArgs false

theorem infoIx : (Tryz.prog.info? 77).map (fun i => (i.zero, i.size, i.bytes)) = some (some (.int .i64 0), 1, 8) := by kernel_rfl

/-- Ints of any type in memory of its own. -/
def OwnI (w : World) (B : Nat) (T : TypeId) (v : Value) (xs : List Int) : Prop := w.ownsRow B T 1 v xs.length (xs.map fun x => .int .i64 x)

section

variable {w w' : World} {B : Nat} {T : TypeId} {v : Value} {xs : List Int}

theorem OwnI.nil (w : World) (B : Nat) (T : TypeId) : OwnI w B T (.slice none 0 0) [] := World.ownsRow_nil w B _ 1

theorem OwnI.own (h : OwnI w B T v xs) : ∀ k, v.ownBlock = some k → B ≤ k ∧ k < w.heap.size := World.ownsRow.lt h

theorem OwnI.step (h : OwnI w B T v xs) (hb : Below w.heap.size w w') : OwnI w' B T v xs := ownsRow_below_ h hb

theorem OwnI.mono (h : OwnI w B T v xs) {b' : Nat} (hb : b' ≤ B) : OwnI w b' T v xs := ownsRow_mono h hb

theorem OwnI.put (h : OwnI w B T v xs) {b : Nat} (hb : b < B) (o : Nat) (x : Value) : OwnI (w.setCell ⟨b, o, none⟩ x) B T v xs :=
  ownsRow_block h fun k e => Below.heap_setCell _ _ _ _ (by have := (h.own k e).1; show k ≠ b; omega)

theorem OwnI.seq (h : OwnI w B T v xs) : Seq w v xs := by
  unfold OwnI at h
  have H := h
  rcases h.2 with ⟨rfl, h0⟩ | ⟨g, cap, cur, rfl, hb, hg, hnc, hcm, hcs, ht⟩
  · exact ⟨none, 0, by rw [h0], by omega, by unfold maxLen; omega, fun h => by omega⟩
  · refine ⟨_, cap, rfl, hnc, hcm, fun h0 => ⟨g, 0, rfl, lt_of_block hg, fun k hk => ?_⟩⟩
    rw [Nat.zero_add, H.cellAt k (by omega)]
    simp [hk, ← atZ_get hk]

theorem OwnI.form (h : OwnI w B T v xs) : ∃ a cap, v = .slice a xs.length cap := by
  rcases h.2 with ⟨rfl, h0⟩ | ⟨g, cap, cur, rfl, _⟩
  · exact ⟨none, 0, by rw [h0]⟩
  · exact ⟨_, cap, rfl⟩

end

def besL (M : Nat → Nat → Bool) (N : Nat) (k : Nat) : List Int := (List.range k).map fun f => ((besN M N f : Nat) : Int)

theorem besL_len (M : Nat → Nat → Bool) (N k : Nat) : (besL M N k).length = k := by simp [besL]

theorem besL_succ (M : Nat → Nat → Bool) (N k : Nat) : besL M N (k + 1) = besL M N k ++ [((besN M N k : Nat) : Int)] := by simp [besL, List.range_succ]

theorem besL_at (M : Nat → Nat → Bool) (N : Nat) {k i : Nat} (h : i < k) : atZ (besL M N k) i = ((besN M N i : Nat) : Int) := by simp [besL, atZ, List.getD, h]

/-- All faces but the wall around, as bits. -/
noncomputable def inW (ns ls : List Nd) : Nat := setN (innW ns ls)

def ScafRet (ns ls : List Nd) (w : World) (e : Ending) (w' : World) : Prop :=
  ∃ vb, e = .returned (.tuple #[.agg #[.int .i64 ((inW ns ls : Nat) : Int), vb], .bool (wholeB ns ls)]) ∧ OwnI w' w.heap.size 77 vb (besL (besM (gA ns ls) (gL ns ls).length) (wF ns ls).length (wF ns ls).length) ∧ Below w.heap.size w w'

/-- One cell of two in view is written. -/
theorem Held.put0 {w W : World} {fs : List (Nat × Nat × Value)} {b : Nat} {x y : Value} (h : Held w W ((b, 0, x) :: (b, 1, y) :: fs)) (hn : Nblk b fs) (hb : w.heap.size ≤ b) (x' : Value) : Held w (W.setCell ⟨b, 0, none⟩ x') ((b, 0, x') :: (b, 1, y) :: fs) :=
  ⟨⟨World.cell?_setCell_same W _ x' h.1.1, (World.cell?_setCell_other W _ _ x' (fun e => by injection e with _ e _; cases e)).trans h.1.2.1, h.1.2.2.setFar hn⟩, by rw [heap_setCell_size]; exact h.2.1, below_setCell h.2.2 hb⟩

theorem Held.putB {w W : World} {fs : List (Nat × Nat × Value)} {b : Nat} {x y : Value} (h : Held w W ((b, 0, x) :: (b, 1, y) :: fs)) (hn : Nblk b fs) (hb : w.heap.size ≤ b) (y' : Value) : Held w (W.setCell ⟨b, 1, none⟩ y') ((b, 0, x) :: (b, 1, y') :: fs) :=
  ⟨⟨(World.cell?_setCell_other W _ _ y' (fun e => by injection e with _ e _; cases e)).trans h.1.1, World.cell?_setCell_same W _ y' h.1.2.1, h.1.2.2.setFar hn⟩, by rw [heap_setCell_size]; exact h.2.1, below_setCell h.2.2 hb⟩

set_option maxRecDepth 100000 in
set_option maxHeartbeats 4000000 in
theorem implScaffold (ns ls : List Nd) (vn vl : Value) (w : World) (hn : Prs w vn ns) (hl : Prs w vl ls) :
    Calls Tryz.prog 61 #[.agg #[vn, vl]] w (ScafRet ns ls w) := by
  have HN := Lib.hid hn
  have HL := Lib.hid hl
  have HGL := Lib.hid (fun w h1 h2 => implGlass ns ls vn vl w h1 h2)
  unfold GlassNew at HGL
  have h13 := wF_thirteen ns ls
  have HIN := Lib.hid (fun v1 v2 v3 v4 B w h1 h2 h3 h4 => (show Calls Tryz.prog 75 #[.agg #[v1, v2, v3, v4]] w (IntsNew (innW ns ls) w) from by
    have := implInner (gN ns ls) (gL ns ls) v1 v2 v3 v4 (wF ns ls) (gA ns ls) B w h1 h2 h3 h4 (g_ok ns ls)
    rw [g_outer] at this
    exact this))
  unfold IntsNew at HIN
  have HBS := Lib.hid (fun (k : Nat) v1 v2 v3 v4 B w h1 h2 h3 h4 => (show Calls Tryz.prog 126 #[.agg #[v1, v2, v3, v4], .int .i64 k] w (IntsNew (rowM (besM (gA ns ls) (gL ns ls).length) (wF ns ls).length k) w) from by
    rw [← besR]
    exact implBesG v1 v2 v3 v4 (wF ns ls) (gA ns ls) (gN ns ls) (gL ns ls) B B k w h1 h2 h3 h4 (g_len ns ls).1 (g_len ns ls).2 (by omega)))
  unfold IntsNew at HBS
  have HSI := Lib.hid (fun v w (h : Seq w v (innW ns ls)) => implSetOf (innW ns ls) v w h fun k hk => by
    obtain ⟨q, h1, h2⟩ := innW_at hk
    exact ⟨q, h1, by omega⟩)
  have HSB := Lib.hid (fun (k : Nat) v w (h : Seq w v (rowM (besM (gA ns ls) (gL ns ls).length) (wF ns ls).length k)) => (show Calls Tryz.prog 125 #[v] w (IntIs ((besN (besM (gA ns ls) (gL ns ls).length) (wF ns ls).length k : Nat) : Int) w) from implSetOf _ v w h fun j hj => by
    obtain ⟨q, h1, h2⟩ := rowM_lt hj
    exact ⟨q, h1, by omega⟩))
  unfold IntIs at HSI HSB
  have HU := Lib.hid (besL_succ (besM (gA ns ls) (gL ns ls).length) (wF ns ls).length)
  have HUL := Lib.hid (besL_len (besM (gA ns ls) (gL ns ls).length) (wF ns ls).length)
  have HU0 := Lib.hid (show besL (besM (gA ns ls) (gL ns ls).length) (wF ns ls).length 0 = [] from rfl)
  have HIW := Lib.hid (show inW ns ls = setN (innW ns ls) from rfl)
  unfold ScafRet
  obtain ⟨A, c, rfl⟩ := prs_form2 hn
  obtain ⟨A2, c2, rfl⟩ := prs_form2 hl
  clear hn hl
  generalize inW ns ls = SI at *
  generalize setN (innW ns ls) = SJ at *
  have HIW := Lib.hid HIW.out
  generalize innW ns ls = IL at *
  generalize wholeB ns ls = wh at *
  generalize hM : besM (gA ns ls) (gL ns ls).length = M at *
  clear hM
  generalize gN ns ls = ns' at *
  generalize gL ns ls = ls' at *
  generalize gA ns ls = ds at *
  generalize hrs : wF ns ls = rs at *
  clear hrs
  have hBN := Lib.hid (fun k => (show besN M rs.length k = besN M rs.length k from rfl))
  generalize besL M rs.length = X at *
  generalize besN M rs.length = BN at *
  generalize rowM M rs.length = R at *
  have H0 := Lib.hid ((held_pair w (.slice A ns.length c) (.slice A2 ls.length c2) 32).new2 (w.heap.size + 1) (by simp) [.int .i64 0, .slice none 0 0] 80)
  have F0 := Lib.hid (Frz.made (w.alloc (.cells #[.slice A ns.length c, .slice A2 ls.length c2] 32)) #[.int .i64 0, .slice none 0 0] 80 (w.heap.size + 1) (by simp))
  obtain ⟨i1, hi, hz0, hz1, hz2⟩ := info_parts infoIx
  have HJ := Lib.hid (And.intro hi (And.intro hz0 (And.intro hz1 hz2))); clear hi hz0 hz1 hz2
  go_enter Tryz.func61, Tryz.ntmps61
  obtain ⟨x0, x1, x2, x3, _⟩ := H0.out.1
  go_wp2_with fail
  refine (HGL.out _ (HN.out.step H0.out.below) (HL.out.step H0.out.below)).mono ?_
  rintro e w1 ⟨v1, v2, v3, v4, rfl, g1, g2, g3, g4, hb⟩
  have H1 := Lib.hid (H0.out.step hb)
  have F1 := Lib.hid (F0.out.step hb)
  have HW1 := Lib.hid H1.out.below
  have HRC := Lib.hid (And.intro H1.out.1.1 H1.out.1.2.1)
  have hs1 : w.heap.size + 2 ≤ w1.heap.size := by have := hb.size; simpa using this
  have HG1 := Lib.hid g1
  have HG2 := Lib.hid g2
  have HG3 := Lib.hid g3
  have HG4 := Lib.hid g4
  have G0 := Lib.hid ((heldG w1 v1 v2 v3 v4 98).new2 (w1.heap.size + 1) (by simp) [.int .i64 0, .slice none 0 0] 80)
  have FS := Lib.hid (Frz.made (w1.alloc (.cells #[v1, v2, v3, v4] 98)) #[.int .i64 0, .slice none 0 0] 80 (w1.heap.size + 1) (by simp))
  have FR := Lib.hid (F1.out.step ((below_alloc w1 (.cells #[v1, v2, v3, v4] 98)).trans ((below_alloc (w1.alloc (.cells #[v1, v2, v3, v4] 98)) (.cells #[.int .i64 0, .slice none 0 0] 80)).mono (by simp))))
  obtain ⟨A5, c5, rfl⟩ := prs_form2 g1
  obtain ⟨A6, c6, rfl⟩ := prs_form2 g2
  obtain ⟨A7, c7, rfl⟩ := faces_form g3
  obtain ⟨A8, c8, rfl⟩ := ints_form g4
  clear hb g1 g2 g3 g4 x0 x1 x2 x3 H0 H1 F0 F1
  obtain ⟨x0, x1, x2, x3, x4, x5, _⟩ := G0.out.1
  go_wp2_with fail
  clear x0 x1 x2 x3 x4 x5
  go_loopw [17] (fun i wr => ∃ (k : Nat) (vb : Value), k ≤ rs.length ∧ i = .int .i64 k ∧ OwnI wr (w1.heap.size + 2) 77 vb (X k) ∧ Frz wr (w1.heap.size + 1) ∧ Frz wr (w.heap.size + 1) ∧ Held w1 wr [(w1.heap.size + 1, 0, .int .i64 0), (w1.heap.size + 1, 1, vb), (w1.heap.size, 0, .slice A5 ns'.length c5), (w1.heap.size, 1, .slice A6 ls'.length c6), (w1.heap.size, 2, .slice A7 rs.length c7), (w1.heap.size, 3, .slice A8 ds.length c8)]) (fun i _ => rs.length - (intOf i).toNat)
  case atStart => exact ⟨0, _, Nat.zero_le _, rfl, by rw [HU0.out]; exact OwnI.nil _ _ _, FS.out, FR.out, G0.out⟩
  case round =>
    clear G0 FS FR
    obtain ⟨k, vb, hk, rfl, hcl, hf1, hf2, hh⟩ := hrel
    have HC := Lib.hid hcl; clear hcl
    have F1 := Lib.hid hf1; clear hf1
    have F2 := Lib.hid hf2; clear hf2
    have H1 := Lib.hid hh; clear hh
    obtain ⟨ab, cb, rfl⟩ := HC.out.form
    rw [HUL.out] at HC H1
    obtain ⟨x0, x1, x2, x3, x4, x5, _⟩ := H1.out.1
    have hsz := H1.out.2.1.1
    by_cases hlt : k < rs.length
    · have q1 : (0 : Int) ≤ k := by omega
      have q2 : (k : Int) < (rs.length : Int) := by omega
      have hBL : Below w1.heap.size w1 wr.drew := H1.out.below.drew
      have hz3 : w1.heap.size + 1 < wr.drew.heap.size := hsz
      have f1 := F1.out.1 1
      obtain ⟨hi, hz0, hz1, hz2⟩ := HJ.out
      have hne : (Value.slice ab k cb).ownBlock ≠ some (w1.heap.size + 1) := fun e => by have := (HC.out.own _ e).1; omega
      have HULK := HUL.out k
      have HRW := Lib.hid (show wr.ownsRow (w1.heap.size + 2) 77 1 (.slice ab k cb) k ((X k).map fun x => .int .i64 x) from by have := HC.out; unfold OwnI at this; rw [HULK] at this; exact this)
      have hu1 : ((X k).map fun x => Value.int .i64 x).length ≤ 40 := by rw [List.length_map, HULK]; omega
      have hu2 : k ≤ 40 := by omega
      have HULH := Lib.hid HULK; clear HULK
      have HBK := Lib.hid (fun W (hb : Below w1.heap.size w1 W) => HBS.out k _ _ _ _ _ W (HG1.out.step hb) (HG2.out.step hb) (HG3.out.step hb) (HG4.out.step hb))
      go_wp2_with fail
      go_region_law (first
        | (go_simp
           go_at_call 126
           refine (HBK.out _ hBL).mono ?_
           rintro e w5 ⟨vr, rfl, hm5, hb5⟩
           obtain ⟨a9, c9, rfl⟩ := ints_form hm5
           have k5 := (hb5.cell (p := ⟨w1.heap.size + 1, 1, none⟩) hz3).trans x1
           have g5 := (hb5.frozen (p := ⟨w1.heap.size + 1, 1, none⟩) hz3).trans f1
           have hz5 : w1.heap.size + 1 < w5.heap.size := Nat.lt_of_lt_of_le hz3 hb5.size)
        | (go_simp
           go_at_call 125
           refine (HSB.out k _ w5 hm5.seq).mono ?_
           rintro e w6 ⟨rfl, hb6⟩
           have hb56 := hb5.trans (hb6.mono hb5.size)
           have k6 := (hb56.cell (p := ⟨w1.heap.size + 1, 1, none⟩) hz3).trans x1
           have g6 := (hb56.frozen (p := ⟨w1.heap.size + 1, 1, none⟩) hz3).trans f1
           have hz6 : w1.heap.size + 1 < w6.heap.size := Nat.lt_of_lt_of_le hz3 hb56.size)
        | ((refine step_append_lies _ (by rfl) _ _ _ (by rfl) (w1.heap.size + 2) 77 i1 (.int .i64 0) 1 8 Tryz.underlying78 hi hz0 hz1 hz2 rfl (by omega) (.slice ab k cb) k ((X k).map fun x => .int .i64 x) (by rfl) (World.ownsRow.alloc (ownsRow_below_ HRW.out ((Below.refl _ _).drew.trans hb56)) _) ⟨w6.heap.size, 0, none⟩ 1 1 [.int .i64 ((BN k : Nat) : Int)] (by rfl) (by rfl) (World.news_of_block (cs := #[.int .i64 ((BN k : Nat) : Int)]) (t := 77) (fr := (0, 0)) (heap_alloc_new w6 _)) (by simp [Value.oneCell']) (by omega) (by unfold maxLen; omega) (by omega) (by simp; omega) (w6.heap.size + 1) (by simp) ?_
            intro gg cap w7 hown1 hgrow hat hlt7
            have hb67 := (hb56.trans ((Below.refl _ w6).alloc hb56.size (.cells #[.int .i64 ((BN k : Nat) : Int)] 77)))
            have k7 := (hgrow.cell_far ⟨w1.heap.size + 1, 1, none⟩ (Nat.lt_of_lt_of_le hz3 hb67.size) (Ne.symm hne)).trans ((hb67.cell (p := ⟨w1.heap.size + 1, 1, none⟩) hz3).trans x1)
            have g7 := (hgrow.frozen_far ⟨w1.heap.size + 1, 1, none⟩ (Nat.lt_of_lt_of_le hz3 hb67.size) (Ne.symm hne)).trans ((hb67.frozen (p := ⟨w1.heap.size + 1, 1, none⟩) hz3).trans f1))))
      all_goals
        have hb7 := (Below.refl _ _).drew.trans hb67
        have hrb : ∀ j, (Value.slice ab k cb).ownBlock = some j → w1.heap.size + 2 ≤ j := fun j e => (HC.out.own j e).1
        have H6 := Lib.hid ((H1.out.step hb7).grown hgrow ⟨fun e => by have := hrb _ e; omega, fun e => by have := hrb _ e; omega, fun e => by have := hrb _ e; omega, fun e => by have := hrb _ e; omega, fun e => by have := hrb _ e; omega, fun e => by have := hrb _ e; omega, trivial⟩ (fun j e => by have := hrb _ e; omega))
        have H7 := Lib.hid (H6.out.putB ⟨by omega, by omega, by omega, by omega, trivial⟩ (by omega) (.slice (some ⟨gg, 0, none⟩) (k + 1) cap))
        have F17 := Lib.hid (((F1.out.step hb7).grown hgrow (fun e => by have := hrb _ e; omega)).put ⟨w1.heap.size + 1, 1, none⟩ (.slice (some ⟨gg, 0, none⟩) (k + 1) cap))
        have F27 := Lib.hid (((F2.out.step hb7).grown hgrow (fun e => by have := hrb _ e; omega)).put ⟨w1.heap.size + 1, 1, none⟩ (.slice (some ⟨gg, 0, none⟩) (k + 1) cap))
        have HC7 := Lib.hid (show OwnI w7 (w1.heap.size + 2) 77 (.slice (some ⟨gg, 0, none⟩) (k + 1) cap) (X (k + 1)) from by
          rw [HU.out]
          unfold OwnI
          rw [List.length_append, HULH.out, List.map_append]
          exact hown1)
        have HC8 := Lib.hid (HC7.out.put (b := w1.heap.size + 1) (by omega) 1 (.slice (some ⟨gg, 0, none⟩) (k + 1) cap))
        clear hm5 hown1 hgrow hat hlt7 hb5 hb6 hb56 hb67 k5 g5 k6 g6 k7 g7 hb7 hz5 hz6 x0 x1 x2 x3 x4 x5 f1 hi hz0 hz1 hz2 hne hBL hz3 HRW HULH hu1 hrb H6 HC F1 F2 H1 hsz HC7
        go_wp2_with fail
        exact ⟨⟨k + 1, _, by omega, by go_num, HC8.out, F17.out, F27.out, H7.out⟩, by simp [intOf]; omega⟩
    · obtain rfl : k = rs.length := by omega
      have HIK := Lib.hid (HIN.out _ _ _ _ _ wr (HG1.out.step H1.out.below) (HG2.out.step H1.out.below) (HG3.out.step H1.out.below) (HG4.out.step H1.out.below))
      go_wp2_with fail
      refine HIK.out.mono ?_
      rintro e w4 ⟨vi, rfl, hm, hb⟩
      have H4 := Lib.hid (H1.out.step hb)
      have HC4 := Lib.hid (HC.out.step hb)
      have F14 := Lib.hid (F1.out.step hb)
      have F24 := Lib.hid (F2.out.step hb)
      have HSK := Lib.hid (HSI.out vi w4 hm.seq)
      obtain ⟨ai, ci, rfl⟩ := ints_form hm
      clear hm hb x0 x1 x2 x3 x4 x5 HIK
      go_wp2_with fail
      refine HSK.out.mono ?_
      rintro e w5 ⟨rfl, hb⟩
      have H5 := Lib.hid (H4.out.step hb)
      have HC5 := Lib.hid (HC4.out.step hb)
      have F15 := Lib.hid (F14.out.step hb)
      have F25 := Lib.hid (F24.out.step hb)
      have f10 := F15.out.1 0
      have f20 := F25.out.1 0
      have f21 := F25.out.1 1
      clear hb H4 HC4 F14 F24 HSK
      have H6 := Lib.hid (H5.out.put0 ⟨by omega, by omega, by omega, by omega, trivial⟩ (by omega) (.int .i64 ((SJ : Nat) : Int)))
      have HC6 := Lib.hid (HC5.out.put (b := w1.heap.size + 1) (by omega) 0 (.int .i64 ((SJ : Nat) : Int)))
      have c0 := (H6.out.below.cell (p := ⟨w.heap.size + 1, 0, none⟩) (by show w.heap.size + 1 < w1.heap.size; omega)).trans HRC.out.1
      have c1 := (H6.out.below.cell (p := ⟨w.heap.size + 1, 1, none⟩) (by show w.heap.size + 1 < w1.heap.size; omega)).trans HRC.out.2
      have r0 := (World.cell?_setCell_other ((w5.setCell ⟨w1.heap.size + 1, 0, none⟩ (.int .i64 ((SJ : Nat) : Int))).setCell ⟨w.heap.size + 1, 0, none⟩ (.int .i64 ((SJ : Nat) : Int))) ⟨w.heap.size + 1, 1, none⟩ ⟨w.heap.size + 1, 0, none⟩ (.slice ab rs.length cb) (fun e => by injection e with _ e _; cases e)).trans (World.cell?_setCell_same _ ⟨w.heap.size + 1, 0, none⟩ (.int .i64 ((SJ : Nat) : Int)) c0)
      have r1 := World.cell?_setCell_same ((w5.setCell ⟨w1.heap.size + 1, 0, none⟩ (.int .i64 ((SJ : Nat) : Int))).setCell ⟨w.heap.size + 1, 0, none⟩ (.int .i64 ((SJ : Nat) : Int))) ⟨w.heap.size + 1, 1, none⟩ (.slice ab rs.length cb) ((World.cell?_setCell_other _ ⟨w.heap.size + 1, 0, none⟩ ⟨w.heap.size + 1, 1, none⟩ (.int .i64 ((SJ : Nat) : Int)) (fun e => by injection e with _ e _; cases e)).trans c1)
      obtain ⟨x0, x1, x2, x3, x4, x5, _⟩ := H5.out.1
      go_wp2_with fail
      refine bodyPost_ret (v := .tuple #[.agg #[.int .i64 ((SJ : Nat) : Int), .slice ab rs.length cb], .bool wh]) (by simp [results, Tryz.results61, go_sem, r0, r1]) rfl ?_
      rw [HIW.out]
      refine ⟨_, rfl, ?_, ?_⟩
      · exact ((HC6.out.put (by omega) 0 _).put (by omega) 1 _).mono (by omega)
      · exact below_setCell (below_setCell (HW1.out.trans (H6.out.below.mono HW1.out.size)) (by show w.heap.size ≤ w.heap.size + 1; omega)) (by show w.heap.size ≤ w.heap.size + 1; omega)
end Go.Proofs.YtepacoacalhdcaaGreat

namespace Go.Proofs.YtepacoacalhdcaaGreat
open Go.RowKit
set_option linter.unusedVariables false
set_option linter.unusedSimpArgs false

theorem heldS (w : World) (v1 v2 : Value) (T : TypeId) : Held w (w.alloc (.cells #[v1, v2] T)) [(w.heap.size, 0, v1), (w.heap.size, 1, v2)] := (Held.none_ w).new2 w.heap.size rfl [v1, v2] T

theorem inN_lt (out : Nat) {N : Nat} (h : N ≤ 60) : inN out N < 4611686018427387904 := bset_lt _ h

theorem besN_lt (M : Nat → Nat → Bool) {N : Nat} (h : N ≤ 60) (f : Nat) : besN M N f < 4611686018427387904 := bset_lt _ h

theorem nextL_succ (M : Nat → Nat → Bool) (N out D : Nat) (k : Nat) : fltN (nextP M N out D) (k + 1) = if nextP M N out D k = true then fltN (nextP M N out D) k ++ [(k : Int)] else fltN (nextP M N out D) k := fltN_succ _ _

set_option maxRecDepth 100000 in
set_option maxHeartbeats 1000000 in
theorem implNext17 (M : Nat → Nat → Bool) (N out D : Nat) (vb : Value) (w : World) (hv : Seq w vb (besL M N N)) (hN : N ≤ 20) (hD : D < 4611686018427387904) :
    Calls Tryz.prog 127 #[.agg #[.int .i64 ((inN out N : Nat) : Int), vb], .int .i64 D] w (IntsNew (nextL M N out D) w) := by
  have HV := Lib.hid hv
  have hbl := besL_len M N N
  obtain ⟨A, c, rfl⟩ := seq_form2 hv
  rw [hbl]
  have HAT := Lib.hid (fun i (hi : i < N) => besL_at M N hi)
  have HHI := Lib.hid (fun (i : Nat) w (h : i ≤ 60) => implHasB (inN out N) i w (inN_lt out (by omega)) h)
  have HHD := Lib.hid (fun (i : Nat) w (h : i ≤ 60) => implHasB D i w hD h)
  unfold BoolIs at HHI HHD
  have HAND := Lib.hid (fun i => bits_and_nat (besN_lt M (N := N) (by omega) i) hD)
  have HNX := Lib.hid (fun k => (show nextP M N out D k = ((inN out N).testBit k && (!D.testBit k && (decide (D = 0) || decide (besN M N k &&& D ≠ 0)))) from rfl))
  have HU := Lib.hid (fun k => nextL_succ M N out D k)
  have HLN := Lib.hid (fltN_len (nextP M N out D))
  have HZ := Lib.hid (show fltN (nextP M N out D) 0 = [] from rfl)
  have HE := Lib.hid (show nextL M N out D = fltN (nextP M N out D) N from rfl)
  have HBLH := Lib.hid hbl
  clear hv hbl
  generalize nextL M N out D = R at *
  generalize fltN (nextP M N out D) = X at *
  generalize nextP M N out D = P at *
  generalize besL M N N = bs at *
  generalize besN M N = BN at *
  generalize inN out N = IN at *
  obtain ⟨i0, hi, hz0, hz1, hz2⟩ := info_parts infoInt
  have HI := Lib.hid (And.intro hi (And.intro hz0 (And.intro hz1 hz2))); clear hi hz0 hz1 hz2
  have H0 := Lib.hid (heldS w (.int .i64 ((IN : Nat) : Int)) (.slice A N c) 80)
  have HO0 := Lib.hid (Ints.made (w.alloc (.cells #[.int .i64 ((IN : Nat) : Int), .slice A N c] 80)) (w.heap.size + 1) (w.heap.size + 1) (by simp) (Nat.le_refl _))
  have H1 := Lib.hid (H0.out.alloc (.cells #[] 3))
  go_enter Tryz.func127, Tryz.ntmps127
  obtain ⟨x0, x1, _⟩ := H1.out.1
  obtain ⟨x0, x1, _⟩ := H0.out.1
  go_wp2_with fail
  clear x0 x1
  go_loopw [5, 12] (fun u i wr => ∃ k : Nat, k ≤ N ∧ i = .int .i64 k ∧ Ints wr (w.heap.size + 1) u (X k) ∧ Held w wr [(w.heap.size, 0, .int .i64 ((IN : Nat) : Int)), (w.heap.size, 1, .slice A N c)]) (fun _ i _ => N - (intOf i).toNat)
  case atStart => exact ⟨0, Nat.zero_le _, rfl, by rw [HZ.out]; exact HO0.out, H1.out⟩
  case round =>
    clear H0 H1 HO0
    obtain ⟨k, hk, rfl, hown, hh⟩ := hrel
    have HO := Lib.hid hown; clear hown
    have H1 := Lib.hid hh; clear hh
    by_cases hlt : k < N
    · obtain ⟨bx, ox, rfl, hbx, hcx⟩ := seq_at (HV.out.step H1.out.below) k (by rw [HBLH.out]; exact hlt)
      have cz := hcx k (by rw [HBLH.out]; exact hlt)
      rw [HAT.out k hlt] at cz
      clear hcx hbx
      obtain ⟨x0, x1, _⟩ := H1.out.1
      have q0 : (0 : Int) ≤ k := by omega
      have q1 : (k : Int) < (N : Int) := by omega
      have hand := HAND.out k
      have HPK := Lib.hid (HNX.out k)
      have HUK := Lib.hid (HU.out k)
      have HHIk := Lib.hid (HHI.out k wr (by omega))
      have HHDk := Lib.hid (fun w => HHD.out k w (by omega))
      have HZ1 := Lib.hid (show w.heap.size + 1 ≤ wr.heap.size from H1.out.2.1.1)
      generalize IN.testBit k = bi at *
      generalize D.testBit k = bd at *
      generalize BN k = bn at *
      generalize P k = pk at *
      go_wp2_with fail
      refine HHIk.out.mono ?_
      rintro e w2 ⟨rfl, hb⟩
      have H2 := Lib.hid (H1.out.step hb)
      have HO2 := Lib.hid (HO.out.step hb)
      have HZ2 := Lib.hid (Nat.le_trans HZ1.out hb.size)
      clear hb x0 x1
      cases bi
      · have EP := Lib.hid (show X (k + 1) = X k from by rw [HUK.out, if_neg (by rw [HPK.out]; simp)])
        have H3 := Lib.hid H2.out
        have HO3 := Lib.hid HO2.out
        go_wp2_with fail
        exact ⟨⟨k + 1, by omega, by go_num, by rw [EP.out]; exact HO3.out, H3.out⟩, by simp [intOf]; omega⟩
      · go_wp2_with fail
        refine (HHDk.out _).mono ?_
        rintro e w3 ⟨rfl, hb⟩
        have H3 := Lib.hid (H2.out.step hb)
        have HO3 := Lib.hid (HO2.out.step hb)
        have HZ3 := Lib.hid (Nat.le_trans HZ2.out hb.size)
        clear hb
        cases bd
        · by_cases hd0 : D = 0
          · have EP := Lib.hid (show X (k + 1) = X k ++ [(k : Int)] from by rw [HUK.out, if_pos (by rw [HPK.out]; simp [hd0])])
            have e1 : ((D : Int) == 0) = true := by simp [hd0]
            clear hd0 hand HPK HUK
            have hsz := H3.out.below.size
            obtain ⟨a9, c9, rfl, -⟩ := HO3.out.form
            have hll := HLN.out k
            obtain ⟨hi, hz0, hz1, hz2⟩ := HI.out
            go_wp2_with (at_builtin; refine wpList_append_own _ rfl _ _ 27 rfl (w.heap.size + 1) 3 i0 (.int .i64 0) 1 8 Tryz.underlying27 hi hz0 hz1 hz2 rfl (by decide) _ _ _ rfl (World.ownsRow.alloc HO3.out _) ⟨_, 0, none⟩ 1 1 [.int .i64 k] rfl rfl ?c1 ?c2 ?c3 ?c4 ?c5 ?_)
            try (case c1 => exact cell_one_new _ _ _)
            case c2 => simp [Value.oneCell']
            case c3 => unfold maxLen; omega
            case c4 => omega
            case c5 => first | omega | (simp <;> omega)
            intro v' w9 hown hgrow _
            have HO9 := Lib.hid (Ints.more hown)
            have H9 := Lib.hid (H3.out.stepB (B := w.heap.size + 1) ⟨by omega, by omega, trivial⟩ (grown_below HO3.out HZ3.out hgrow) (by omega))
            clear hown hgrow hi hz0 hz1 hz2
            go_wp2_with fail
            exact ⟨⟨k + 1, by omega, by go_num, by rw [EP.out]; exact HO9.out, H9.out⟩, by simp [intOf]; omega⟩
          · have e1 : ((D : Int) == 0) = false := by rw [beq_eq_false_iff_ne]; omega
            by_cases ha0 : bn &&& D = 0
            · have EP := Lib.hid (show X (k + 1) = X k from by rw [HUK.out, if_neg (by rw [HPK.out]; simp [hd0, ha0])])
              have e2 : (((bn &&& D : Nat) : Int) != 0) = false := by simp [ha0]
              clear hd0 ha0 HPK HUK
              generalize ((bn &&& D : Nat) : Int) = z at *
              go_wp2_with fail
              exact ⟨⟨k + 1, by omega, by go_num, by rw [EP.out]; exact HO3.out, H3.out⟩, by simp [intOf]; omega⟩
            · have EP := Lib.hid (show X (k + 1) = X k ++ [(k : Int)] from by rw [HUK.out, if_pos (by rw [HPK.out]; simp [ha0])])
              have e2 : (((bn &&& D : Nat) : Int) != 0) = true := by simp; omega
              clear hd0 ha0 HPK HUK
              generalize ((bn &&& D : Nat) : Int) = z at *
              have hsz := H3.out.below.size
              obtain ⟨a9, c9, rfl, -⟩ := HO3.out.form
              have hll := HLN.out k
              obtain ⟨hi, hz0, hz1, hz2⟩ := HI.out
              go_wp2_with (at_builtin; refine wpList_append_own _ rfl _ _ 27 rfl (w.heap.size + 1) 3 i0 (.int .i64 0) 1 8 Tryz.underlying27 hi hz0 hz1 hz2 rfl (by decide) _ _ _ rfl (World.ownsRow.alloc HO3.out _) ⟨_, 0, none⟩ 1 1 [.int .i64 k] rfl rfl ?c1 ?c2 ?c3 ?c4 ?c5 ?_)
              try (case c1 => exact cell_one_new _ _ _)
              case c2 => simp [Value.oneCell']
              case c3 => unfold maxLen; omega
              case c4 => omega
              case c5 => first | omega | (simp <;> omega)
              intro v' w9 hown hgrow _
              have HO9 := Lib.hid (Ints.more hown)
              have H9 := Lib.hid (H3.out.stepB (B := w.heap.size + 1) ⟨by omega, by omega, trivial⟩ (grown_below HO3.out HZ3.out hgrow) (by omega))
              clear hown hgrow hi hz0 hz1 hz2
              go_wp2_with fail
              exact ⟨⟨k + 1, by omega, by go_num, by rw [EP.out]; exact HO9.out, H9.out⟩, by simp [intOf]; omega⟩
        · have EP := Lib.hid (show X (k + 1) = X k from by rw [HUK.out, if_neg (by rw [HPK.out]; simp)])
          go_wp2_with fail
          exact ⟨⟨k + 1, by omega, by go_num, by rw [EP.out]; exact HO3.out, H3.out⟩, by simp [intOf]; omega⟩
    · obtain rfl : k = N := by omega
      go_wp2_with fail
      go_ret
      exact ⟨_, rfl, by rw [HE.out]; exact HO.out.mono (Nat.le_succ _), H1.out.below⟩

theorem bits_not_big {a b : Nat} (ha : a < 9223372036854775808) (hb : b < 4611686018427387904) : bits .andNot .i64 (a : Int) (b : Int) = ((subN a b : Nat) : Int) := by
  have hx := subN_le a b
  show IntKind.i64.wrap ((BitVec.ofInt 64 (a : Int) &&& ~~~BitVec.ofInt 64 (b : Int)).toNat : Int) = _
  have he : (BitVec.ofInt 64 (a : Int) &&& ~~~BitVec.ofInt 64 (b : Int)).toNat = subN a b := Nat.eq_of_testBit_eq fun i => by
    rw [subN_bit, BitVec.testBit_toNat, BitVec.getLsbD_and, BitVec.getLsbD_not, ← BitVec.testBit_toNat, ← BitVec.testBit_toNat, bv_nat (by omega), bv_nat (by omega)]
    by_cases h : i < 64
    · simp [h]
    · have : a.testBit i = false := Nat.testBit_lt_two_pow (Nat.lt_of_lt_of_le (show a < 2 ^ 63 by omega) (Nat.pow_le_pow_right (by omega) (by omega)))
      rw [this]
      rfl
  rw [he]
  exact IntWalk.i64_in _ (by omega)

theorem sub_zero_iff {s out N : Nat} : subN s (inN out N) = 0 ↔ ∀ i, s.testBit i = true → i < N ∧ i ≠ out := by
  rw [bits_zero]
  constructor
  · intro h i hi
    have := h i
    rw [subN_bit, hi, inN_bit] at this
    simpa using this
  · intro h i
    rw [subN_bit, inN_bit, Bool.eq_false_iff]
    intro e
    simp only [Bool.and_eq_true, Bool.not_eq_true'] at e
    have := h i e.1
    simp [this] at e

theorem small_of {s N : Nat} (h : ∀ i, s.testBit i = true → i < N) : s < 2 ^ N := Nat.lt_pow_two_of_testBit s fun i hi => by
  cases e : s.testBit i
  · rfl
  · have := h i e; omega

theorem kF_end {s : Nat} {l : List Int} {r : Nat} : kF s (l.take l.length) r = kF s l r := by rw [List.take_length]

theorem next_at {M : Nat → Nat → Bool} {N out D j : Nat} (hj : j < (nextL M N out D).length) : ∃ q : Nat, atZ (nextL M N out D) j = q ∧ q < N := by
  obtain ⟨q, h1, h2, _⟩ := (fltN_mem _ _ _).1 (show atZ (nextL M N out D) j ∈ nextL M N out D from by rw [← atZ_get hj]; exact List.getElem_mem hj)
  exact ⟨q, h1, h2⟩

set_option maxRecDepth 100000 in
set_option maxHeartbeats 1000000 in
theorem implJoined17 (M : Nat → Nat → Bool) (hsym : ∀ i j, M i j = M j i) (N out : Nat) (x : Int) (vb : Value) (w : World) (hv : Seq w vb (besL M N N)) (hN : N ≤ 20) (hx : -9223372036854775808 ≤ x ∧ x ≤ 9223372036854775807) :
    Calls Tryz.prog 62 #[.agg #[.int .i64 ((inN out N : Nat) : Int), vb], .int .i64 x] w (BoolIs (jndB M N out x) w) := by
  have HNX := Lib.hid (fun (D : Nat) W (hb : Below w.heap.size w W) (hD : D < 4611686018427387904) => implNext17 M N out D vb W (hv.step hb) hN hD)
  unfold IntsNew at HNX
  have hbl := besL_len M N N
  obtain ⟨A, c, rfl⟩ := seq_form2 hv
  rw [hbl] at HNX ⊢
  clear hv hbl
  have H0 := Lib.hid (heldS w (.int .i64 ((inN out N : Nat) : Int)) (.slice A N c) 80)
  have hin := inN_lt out (N := N) (by omega)
  rcases Int.lt_trichotomy x 0 with hx0 | hx0 | hx0
  · have HX := Lib.hid (jnd_no (M := M) (N := N) (out := out) (x := x) (by omega))
    have hb := bits_not_neg hx0 hx.1 hin
    have e1 : (x == 0) = false := by rw [beq_eq_false_iff_ne]; omega
    generalize jndB M N out x = R at *
    generalize hz : bits .andNot .i64 x ((inN out N : Nat) : Int) = z at *
    have e2 : (z != 0) = true := by simp [hb]
    generalize inN out N = IN at *
    clear hb hx0 hx hin HNX
    go_enter Tryz.func62, Tryz.ntmps62
    obtain ⟨x0, x1, _⟩ := H0.out.1
    go_wp2_with fail
    go_ret
    exact ⟨ret_bool HX.out.symm, H0.out.below⟩
  · subst hx0
    have HX := Lib.hid (jnd_no (M := M) (N := N) (out := out) (x := 0) (by omega))
    generalize jndB M N out 0 = R at *
    generalize inN out N = IN at *
    clear hx hin HNX
    go_enter Tryz.func62, Tryz.ntmps62
    obtain ⟨x0, x1, _⟩ := H0.out.1
    go_wp2_with fail
    go_ret
    exact ⟨ret_bool HX.out.symm, H0.out.below⟩
  · obtain ⟨s, rfl⟩ : ∃ s : Nat, x = s := ⟨x.toNat, by omega⟩
    have hb := bits_not_big (a := s) (b := inN out N) (by omega) hin
    have e1 : ((s : Int) == 0) = false := by rw [beq_eq_false_iff_ne]; omega
    by_cases hsub : subN s (inN out N) = 0
    · have hbits := sub_zero_iff.1 hsub
      rw [hsub] at hb
      have hs20 := small_of fun i h => (hbits i h).1
      have hs62 : s < 4611686018427387904 := Nat.lt_of_lt_of_le hs20 (Nat.le_of_lt (pow_in (by omega)))
      obtain ⟨a, ha⟩ := lowB_ex (s := s) (by omega)
      obtain ⟨q, hq⟩ := ha.is
      have haN := (hbits a ha.1).1
      have hlow := bits_low hq hs62
      have hneg : IntKind.i64.wrap (-(s : Int)) = -(s : Int) := IntWalk.i64_in _ (by omega)
      have HJ := Lib.hid (jnd_is (M := M) ha hbits)
      have HKI := Lib.hid (kR_iff (M := M) hsym ha hbits)
      have HKL := Lib.hid (fun n => kR_lt (M := M) (N := N) (out := out) (s := s) (a := a) (by omega) (by omega) n)
      have HKN := Lib.hid (fun n => (show kR M N out s a (n + 1) = kF s (nextL M N out (kR M N out s a n)) (kR M N out s a n) from rfl))
      have HK0 := Lib.hid (show kR M N out s a 0 = 2 ^ a from rfl)
      have HFS := Lib.hid (fun l r j (h : j < l.length) => kF_succ (s := s) (l := l) (r := r) h)
      have HFE := Lib.hid (fun l r => kF_end (s := s) (l := l) (r := r))
      have HF0 := Lib.hid (fun (l : List Int) (r : Nat) => (show kF s (l.take 0) r = r from rfl))
      have HFL := Lib.hid (fun (D j : Nat) (hD : D < 4611686018427387904) => (show kF s ((nextL M N out D).take j) D < 4611686018427387904 from kF_lt _ _ (fun x hx => by
        obtain ⟨q, rfl, h⟩ := next_le (by omega) x (List.mem_of_mem_take hx)
        simp
        omega) hD))
      have HNA := Lib.hid (fun D j hj => next_at (M := M) (N := N) (out := out) (D := D) (j := j) hj)
      have HNL := Lib.hid (fun D => (show (nextL M N out D).length ≤ N from fltN_len _ _))
      have HHS := Lib.hid (fun (i : Nat) w (h : i ≤ 60) => implHasB s i w hs62 h)
      have HWI := Lib.hid (fun (r i : Nat) w h1 h2 => implWith r i w h1 h2)
      unfold BoolIs at HHS
      unfold IntIs at HWI
      have HKS := Lib.hid (fun (r q : Nat) => (show kS s r (q : Int) = if s.testBit q = true then r ||| 2 ^ q else r from rfl))
      generalize jndB M N out (s : Int) = R at *
      generalize kR M N out s a = K at *
      generalize kF s = F at *
      generalize kS s = S at *
      generalize nextL M N out = NL at *
      generalize inN out N = IN at *
      have hpa : ((2 ^ a : Nat) : Int) = ((2 ^ a : Nat) : Int) := rfl
      rw [← HK0.out] at hlow
      clear hpa hsub hbits hs20 ha hq hin hx hx0 haN HK0
      go_enter Tryz.func62, Tryz.ntmps62
      obtain ⟨x0, x1, _⟩ := H0.out.1
      go_wp2_with fail
      clear x0 x1
      go_loopw [5, 24] (fun r i wr => ∃ k : Nat, k ≤ N ∧ i = .int .i64 k ∧ r = .int .i64 ((K k : Nat) : Int) ∧ Held w wr [(w.heap.size, 0, .int .i64 ((IN : Nat) : Int)), (w.heap.size, 1, .slice A N c)]) (fun _ i _ => N - (intOf i).toNat)
      case atStart => exact ⟨0, Nat.zero_le _, rfl, rfl, H0.out⟩
      case round =>
        obtain ⟨k, hk, rfl, rfl, hh⟩ := hrel
        have H1 := Lib.hid hh; clear hh
        by_cases hlt : k < N
        · have q1 : (0 : Int) ≤ k := by omega
          have q2 : (k : Int) < (N : Int) := by omega
          obtain ⟨x0, x1, _⟩ := H1.out.1
          have HNK := Lib.hid (HNX.out (K k) wr H1.out.below (HKL.out k))
          have HAK := Lib.hid (HNA.out (K k))
          have HLK := HNL.out (K k)
          have HKK := Lib.hid (HKN.out k)
          have HFSK := Lib.hid (HFS.out (NL (K k)) (K k))
          have HFEK := Lib.hid (HFE.out (NL (K k)) (K k))
          have HF0K := Lib.hid (HF0.out (NL (K k)) (K k))
          have HFLK := Lib.hid (fun j => HFL.out (K k) j (HKL.out k))
          generalize NL (K k) = T at *
          generalize hG : (fun j => F (T.take j) (K k)) = G at *
          have HGG := Lib.hid (fun j => (show F (T.take j) (K k) = G j from by rw [← hG])); clear hG
          have HFSK := Lib.hid (fun j (h : j < T.length) => (show G (j + 1) = S (G j) (atZ T j) from by rw [← HGG.out, ← HGG.out]; exact HFSK.out j h))
          have HFEK := Lib.hid (show G T.length = K (k + 1) from by rw [← HGG.out, HKK.out]; exact HFEK.out)
          have HF0K := Lib.hid (show G 0 = K k from by rw [← HGG.out]; exact HF0K.out)
          have HFLK := Lib.hid (fun j => (show G j < 4611686018427387904 from by rw [← HGG.out]; exact HFLK.out j))
          clear HGG
          go_wp2_with fail
          refine HNK.out.mono ?_
          rintro e w2 ⟨vT, rfl, hT, hb⟩
          have H2 := Lib.hid (H1.out.step hb)
          have HT2 := Lib.hid hT
          obtain ⟨aT, cT, rfl, -⟩ := hT.form
          clear hb hT x0 x1
          go_wp2_with fail
          go_loopw [5, 30] (fun r i wr2 => ∃ j : Nat, j ≤ T.length ∧ i = .int .i64 j ∧ r = .int .i64 ((G j : Nat) : Int) ∧ Ints wr2 wr.heap.size (.slice aT T.length cT) T ∧ Held w wr2 [(w.heap.size, 0, .int .i64 ((IN : Nat) : Int)), (w.heap.size, 1, .slice A N c)]) (fun _ i _ => T.length - (intOf i).toNat)
          case atStart => exact ⟨0, Nat.zero_le _, rfl, by rw [HF0K.out], HT2.out, H2.out⟩
          case round =>
            clear H2 HT2 H1
            obtain ⟨j, hj, rfl, rfl, ht, hh⟩ := hrel
            have HT := Lib.hid ht; clear ht
            have H1 := Lib.hid hh; clear hh
            by_cases hjl : j < T.length
            · obtain ⟨q, hq, hqN⟩ := HAK.out j hjl
              obtain ⟨gT, cT', hvT⟩ := HT.out.some_ (by omega)
              simp only [Value.slice.injEq] at hvT
              obtain ⟨rfl, -, rfl⟩ := hvT
              obtain ⟨t0, -, t1, -, -⟩ := HT.out.at_ hjl
              rw [hq] at t0
              have hst := HFSK.out j hjl
              rw [hq, HKS.out] at hst
              have HST := Lib.hid hst
              have HHQ := Lib.hid (fun w => HHS.out q w (by omega))
              have HWQ := Lib.hid (fun w => HWI.out (G j) q w (HFLK.out j) (by omega))
              have q3 : (0 : Int) ≤ j := by omega
              have q4 : (j : Int) < (T.length : Int) := by omega
              generalize s.testBit q = bq at *
              clear hq hst
              go_wp2_with fail
              refine (HHQ.out _).mono ?_
              rintro e w3 ⟨rfl, hb⟩
              have H3 := Lib.hid (H1.out.step hb)
              have HT3 := Lib.hid (HT.out.step hb)
              clear hb t0 t1
              cases bq
              · have E := Lib.hid (show G (j + 1) = G j from by rw [HST.out]; rfl)
                go_wp2_with fail
                exact ⟨⟨j + 1, by omega, by go_num, by rw [E.out], HT3.out, H3.out⟩, by simp [intOf]; omega⟩
              · have E := Lib.hid (show G (j + 1) = G j ||| 2 ^ q from by rw [HST.out]; rfl)
                rw [← E.out] at HWQ
                go_wp2_with fail
                refine (HWQ.out _).mono ?_
                rintro e w4 ⟨rfl, hb⟩
                go_wp2_with fail
                exact ⟨⟨j + 1, by omega, by go_num, rfl, HT3.out.step hb, H3.out.step hb⟩, by simp [intOf]; omega⟩
            · obtain rfl : j = T.length := by omega
              go_wp2_with fail
              exact ⟨⟨k + 1, by omega, by go_num, by rw [HFEK.out], H1.out⟩, by simp [intOf]; omega⟩
        · obtain rfl : k = N := by omega
          have HR := Lib.hid (show R = decide (K k = s) from by
            rw [Bool.eq_iff_iff, HJ.out, ← HKI.out, decide_eq_true_eq])
          clear hlow hb hneg e1 HJ HKI
          by_cases he : K k = s
          · have HR2 := Lib.hid (show R = true from by rw [HR.out, decide_eq_true he])
            rw [he]
            clear he HR
            go_wp2_with fail
            go_ret
            exact ⟨ret_bool (by first | (rw [HR2.out]; done) | (rw [HR2.out]; simp)), H1.out.below⟩
          · have HR2 := Lib.hid (show R = false from by rw [HR.out, decide_eq_false he])
            have e3 : (((K k : Nat) : Int) == (s : Int)) = false := by rw [beq_eq_false_iff_ne]; omega
            clear he HR
            generalize ((K k : Nat) : Int) = z at *
            go_wp2_with fail
            go_ret
            exact ⟨ret_bool (by first | (rw [HR2.out]; done) | (rw [HR2.out]; simp_all)), H1.out.below⟩
    · have HX := Lib.hid (jnd_out (M := M) (N := N) (out := out) (s := s) fun h => hsub (sub_zero_iff.2 h))
      have e2 : (((subN s (inN out N) : Nat) : Int) != 0) = true := by simp; omega
      generalize jndB M N out (s : Int) = R at *
      generalize ((subN s (inN out N) : Nat) : Int) = z at *
      generalize inN out N = IN at *
      clear hsub hx hin HNX hx0
      go_enter Tryz.func62, Tryz.ntmps62
      obtain ⟨x0, x1, _⟩ := H0.out.1
      go_wp2_with fail
      go_ret
      exact ⟨ret_bool HX.out.symm, H0.out.below⟩
end Go.Proofs.YtepacoacalhdcaaGreat

namespace Go.Proofs.YtepacoacalhdcaaGreat
open Go.RowKit
set_option linter.unusedVariables false
set_option linter.unusedSimpArgs false

theorem jG_succ (M : Nat → Nat → Bool) (s f got n : Nat) : jG M s f got (n + 1) = if ((jG M s f got n).testBit f && (s.testBit n && M f n)) = true then jG M s f got n ||| 2 ^ n else jG M s f got n := rfl

set_option maxRecDepth 100000 in
set_option maxHeartbeats 1000000 in
theorem specJoined17 (M : Nat → Nat → Bool) (N s a : Nat) (am : Option Addr) (cm : Nat) (g : Nat → Nat) (w : World) (hm : MatG w 0 (.slice am N cm) g N N M) (hN : N ≤ 20) (hs62 : s < 4611686018427387904) (ha : LowB s a) (haN : a < N) (hb : ∀ i, s.testBit i = true → i < N) :
    Calls Tryz.prog 58 #[.slice am N cm, .int .i64 s] w (fun e w' => ∃ r, e = .returned (.bool r) ∧ (r = true ↔ AllR M s a) ∧ Below w.heap.size w w') := by
  have HM := Lib.hid hm; clear hm
  have HA1 := Lib.hid ha.1
  have HA0 := Lib.hid ha.2
  have HBA := Lib.hid (fun (i : Nat) => bit_at (s := s) (i := i) hs62)
  have HBG := Lib.hid (fun (r i : Nat) (hr : r < 4611686018427387904) => bit_at (s := r) (i := i) hr)
  have HSH := Lib.hid (fun (i : Nat) (h : i ≤ 60) => shl_one h)
  have HOR := Lib.hid (fun (r i : Nat) (hr : r < 4611686018427387904) (h : i ≤ 60) => bits_or_nat hr (pow_in h))
  have HJI := Lib.hid (jR_iff (M := M) ha hb)
  have HRN := Lib.hid (fun n => (show jR M s N a (n + 1) = jF M s N (jR M s N a n) N from rfl))
  have HR0 := Lib.hid (show jR M s N a 0 = 2 ^ a from rfl)
  have HRL := Lib.hid (fun n => jR_lt (M := M) (s := s) (N := N) (a := a) (by omega) (by omega) n)
  have HFN := Lib.hid (fun r n => (show jF M s N r (n + 1) = jG M s n (jF M s N r n) N from rfl))
  have HF0 := Lib.hid (fun r => (show jF M s N r 0 = r from rfl))
  have HFL := Lib.hid (fun r n (h : r < 4611686018427387904) => jF_lt (M := M) (s := s) (N := N) (got := r) (by omega) h n)
  have HGN := Lib.hid (fun f r n => jG_succ M s f r n)
  have HG0 := Lib.hid (fun f r => (show jG M s f r 0 = r from rfl))
  have HGL := Lib.hid (fun f r n (h : r < 4611686018427387904) (hn : n ≤ 60) => jG_lt (M := M) (s := s) (f := f) (got := r) h n hn)
  have ha60 : a ≤ 60 := by omega
  clear ha hb
  generalize hAR : AllR M s a = AR at *
  clear hAR
  generalize jR M s N a = JR at *
  generalize jF M s N = JF at *
  generalize jG M s = JG at *
  go_enter Tryz.func58, Tryz.ntmps58
  go_wp2_with fail
  go_loopw [5] (fun i wr => ∃ k : Nat, k ≤ a ∧ i = .int .i64 k ∧ Below w.heap.size w wr) (fun i _ => a - (intOf i).toNat)
  case atStart => exact ⟨0, Nat.zero_le _, rfl, Below.refl _ _⟩
  case round =>
    obtain ⟨k, hk, rfl, hb0⟩ := hrel
    have HB0 := Lib.hid hb0; clear hb0
    have hbk := HBA.out k
    have q1 : (0 : Int) ≤ k := by omega
    have e3 : ((k : Int)).toNat = k := by omega
    have e4 : min k 64 = k := by omega
    by_cases hlt : k < a
    · rw [if_neg (by rw [HA0.out k hlt]; simp)] at hbk
      go_wp2_with fail
      exact ⟨⟨k + 1, by omega, by go_num, HB0.out⟩, by simp [intOf]; omega⟩
    · obtain rfl : k = a := by omega
      rw [if_pos HA1.out] at hbk
      have hsh := HSH.out k ha60
      rw [← HR0.out] at hsh
      go_wp2_with fail
      clear hbk hsh HR0
      go_loopw [6, 7] (fun r i wr => ∃ n : Nat, n ≤ N ∧ i = .int .i64 n ∧ r = .int .i64 ((JR n : Nat) : Int) ∧ Below w.heap.size w wr) (fun _ i _ => N - (intOf i).toNat)
      case atStart => exact ⟨0, Nat.zero_le _, rfl, rfl, HB0.out⟩
      case round =>
        obtain ⟨n, hn, rfl, rfl, hb⟩ := hrel
        have HB := Lib.hid hb; clear hb
        by_cases hnl : n < N
        · have p1 : (n : Int) < (N : Int) := by omega
          have HL0 := HRL.out n
          have HE := Lib.hid (HRN.out n)
          have HZ := Lib.hid (HF0.out (JR n))
          have HFS := Lib.hid (fun f => HFN.out (JR n) f)
          have HFB := Lib.hid (fun f => HFL.out (JR n) f HL0)
          generalize hJ : JF (JR n) = J at *
          clear hJ HL0
          go_wp2_with fail
          go_loopw [6, 8] (fun r i wr2 => ∃ f : Nat, f ≤ N ∧ i = .int .i64 f ∧ r = .int .i64 ((J f : Nat) : Int) ∧ Below w.heap.size w wr2) (fun _ i _ => N - (intOf i).toNat)
          case atStart => exact ⟨0, Nat.zero_le _, rfl, by rw [HZ.out], HB.out⟩
          case round =>
            clear HB
            obtain ⟨f, hf, rfl, rfl, hb⟩ := hrel
            have HB := Lib.hid hb; clear hb
            by_cases hfl : f < N
            · have p2 : (f : Int) < (N : Int) := by omega
              have p3 : (0 : Int) ≤ f := by omega
              have HE2 := Lib.hid (HFS.out f)
              have HZ2 := Lib.hid (HG0.out f (J f))
              have HGS := Lib.hid (fun n => HGN.out f (J f) n)
              have HGB := Lib.hid (fun n (hn : n ≤ 60) => HGL.out f (J f) n (HFB.out f) hn)
              generalize hJ2 : JG f (J f) = G at *
              clear hJ2
              go_wp2_with fail
              go_loopw [6, 9] (fun r i wr3 => ∃ h : Nat, h ≤ N ∧ i = .int .i64 h ∧ r = .int .i64 ((G h : Nat) : Int) ∧ Below w.heap.size w wr3) (fun _ i _ => N - (intOf i).toNat)
              case atStart => exact ⟨0, Nat.zero_le _, rfl, by rw [HZ2.out], HB.out⟩
              case round =>
                clear HB
                obtain ⟨h, hh, rfl, rfl, hb⟩ := hrel
                have HB := Lib.hid hb; clear hb
                by_cases hhl : h < N
                · have p4 : (h : Int) < (N : Int) := by omega
                  have p5 : (0 : Int) ≤ h := by omega
                  have t3 : ((h : Int)).toNat = h := by omega
                  have t5 : min h 64 = h := by omega
                  have t6 : min f 64 = f := by omega
                  have t4 : ((f : Int)).toNat = f := by omega
                  have HMW := HM.out.step HB.out
                  obtain ⟨gm, cm', hmv⟩ := HMW.some_ (by omega)
                  simp only [Value.slice.injEq] at hmv
                  obtain ⟨rfl, -, rfl⟩ := hmv
                  obtain ⟨z0, hgm⟩ := HMW.cellRow hfl
                  obtain ⟨z1, z2, z3⟩ := HMW.cell hfl hhl
                  unfold rowVal at z0
                  have b1 := HBG.out (G h) f (HGB.out h (by omega))
                  have b2 := HBA.out h
                  have s1 := HSH.out h (by omega)
                  have s2 := HOR.out (G h) h (HGB.out h (by omega)) (by omega)
                  have HGH := Lib.hid (HGS.out h)
                  clear HMW
                  generalize (G h).testBit f = c1 at *
                  generalize s.testBit h = c2 at *
                  generalize M f h = c3 at *
                  cases c1
                  · have E := Lib.hid (show G (h + 1) = G h from by rw [HGH.out]; rfl)
                    simp only [Bool.false_eq_true, if_false] at b1
                    go_wp2_with fail
                    exact ⟨⟨h + 1, by omega, by go_num, by rw [E.out], HB.out⟩, by simp [intOf]; omega⟩
                  · simp only [if_true] at b1
                    cases c2
                    · have E := Lib.hid (show G (h + 1) = G h from by rw [HGH.out]; rfl)
                      simp only [Bool.false_eq_true, if_false] at b2
                      go_wp2_with fail
                      exact ⟨⟨h + 1, by omega, by go_num, by rw [E.out], HB.out⟩, by simp [intOf]; omega⟩
                    · simp only [if_true] at b2
                      cases c3
                      · have E := Lib.hid (show G (h + 1) = G h from by rw [HGH.out]; rfl)
                        go_wp2_with fail
                        exact ⟨⟨h + 1, by omega, by go_num, by rw [E.out], HB.out⟩, by simp [intOf]; omega⟩
                      · have E := Lib.hid (show G (h + 1) = G h ||| 2 ^ h from by rw [HGH.out]; rfl)
                        rw [← E.out] at s2
                        go_wp2_with fail
                        exact ⟨⟨h + 1, by omega, by go_num, by rw [← s2, Int.natCast_pow]; rfl, HB.out⟩, by simp [intOf]; omega⟩
                · obtain rfl : h = N := by omega
                  go_wp2_with fail
                  exact ⟨⟨f + 1, by omega, by go_num, by rw [HE2.out], HB.out⟩, by simp [intOf]; omega⟩
            · obtain rfl : f = N := by omega
              go_wp2_with fail
              exact ⟨⟨n + 1, by omega, by go_num, by rw [HE.out], HB.out⟩, by simp [intOf]; omega⟩
        · obtain rfl : n = N := by omega
          by_cases he : JR n = s
          · have HY := Lib.hid (HJI.out.1 he)
            rw [he]
            clear he HJI
            go_wp2_with fail
            go_ret
            exact ⟨true, by first | rfl | simp, by simp [HY.out], HB.out⟩
          · have HY := Lib.hid (fun h => he (HJI.out.2 h))
            have e5 : (((JR n : Nat) : Int) == (s : Int)) = false := by rw [beq_eq_false_iff_ne]; omega
            clear he HJI
            generalize ((JR n : Nat) : Int) = z at *
            go_wp2_with fail
            go_ret
            exact ⟨false, by first | rfl | simp_all, ⟨fun h => absurd h (by simp), fun h => absurd h HY.out⟩, HB.out⟩
end Go.Proofs.YtepacoacalhdcaaGreat

namespace Go.Proofs.YtepacoacalhdcaaGreat
open Go.RowKit
set_option linter.unusedVariables false
set_option linter.unusedSimpArgs false

/-- The leads between faces, as the program's glass has them. -/
noncomputable def gM (ns ls : List Nd) : Nat → Nat → Bool := besM (gA ns ls) (gL ns ls).length

noncomputable def gO (ns ls : List Nd) : Nat := (outW ns ls).toNat

noncomputable def ajB (ns ls : List Nd) (x : Int) : Bool := jndB (gM ns ls) (wF ns ls).length (gO ns ls) x

theorem jnd_zero (M : Nat → Nat → Bool) (out : Nat) (x : Int) : jndB M 0 out x = false := by
  unfold jndB
  rw [decide_eq_false_iff_not]
  rintro ⟨s, a, _, h1, h2, _⟩
  have := h2 a h1.1
  omega

theorem wF_none {ns ls : List Nd} (h : wholeB ns ls = false) : wF ns ls = [] := if_neg (by rw [h]; simp)

theorem ajB_no {ns ls : List Nd} {x : Int} (h : wholeB ns ls = false) : ajB ns ls x = false := by
  unfold ajB
  rw [wF_none h]
  exact jnd_zero _ _ _

theorem gM_is {ns ls : List Nd} (h : wholeB ns ls = true) : gM ns ls = besM (atW ns ls) ls.length := by
  unfold gM
  rw [(gA_whole2 h).1, (gA_whole2 h).2]

theorem inW_is (ns ls : List Nd) : inW ns ls = inN (gO ns ls) (wF ns ls).length := by
  unfold inW inN bset innW gO
  by_cases hh : wholeB ns ls = true
  · obtain ⟨o, ho, _⟩ := outW_is hh
    rw [ho]
    refine congrArg setN (fltN_congr _ fun k _ => ?_)
    unfold innP
    rw [Bool.eq_iff_iff]
    simp
    omega
  · rw [Bool.not_eq_true] at hh
    rw [wF_none hh]
    rfl

theorem pow_small {N : Nat} (h : N ≤ 13) : 1 ≤ 2 ^ N ∧ 2 ^ N ≤ 8192 := ⟨Nat.one_le_two_pow, Nat.pow_le_pow_right (by omega) h⟩

set_option maxRecDepth 100000 in
set_option maxHeartbeats 1000000 in
theorem specAjn (ns ls : List Nd) (vn vl : Value) (x : Int) (w : World) (hn : Prs w vn ns) (hl : Prs w vl ls) (hx : -9223372036854775808 ≤ x ∧ x ≤ 9223372036854775807) :
    Calls Tryz.prog 56 #[.agg #[vn, vl], .int .i64 x] w (BoolIs (ajB ns ls x) w) := by
  have HFC := Lib.hid (fun w h1 h2 => specFacesL ns ls vn vl w h1 h2)
  unfold FacesNew at HFC
  have HOU := Lib.hid (fun w h1 h2 => specOuterFace ns ls vn vl w h1 h2)
  unfold IntIs at HOU
  have HMT := Lib.hid (fun w h1 h2 (hh : wholeB ns ls = true) => specMat ns ls vn vl w h1 h2 hh)
  unfold MatNew at HMT
  have HI1 := Lib.hid (fun n w => specIn n 1 20 w)
  have HI2 := Lib.hid (fun (h : Int) w => specIn x 1 h w)
  have HNO := Lib.hid (fun h => ajB_no (ns := ns) (ls := ls) (x := x) h)
  have h13 := wF_thirteen ns ls
  have HN := Lib.hid hn
  have HL := Lib.hid hl
  have H0 := Lib.hid (held_pair w vn vl 32)
  obtain ⟨A, c1, rfl⟩ := prs_form2 hn
  obtain ⟨A2, c2, rfl⟩ := prs_form2 hl
  clear hn hl
  by_cases hh : wholeB ns ls = true
  · obtain ⟨o, ho, hol⟩ := outW_is hh
    have hAJ : ajB ns ls x = jndB (besM (atW ns ls) ls.length) (wF ns ls).length o x := by unfold ajB gO; rw [gM_is hh, ho]; rfl
    have HAJ := Lib.hid hAJ; clear hAJ
    have HJT := Lib.hid (fun (s a : Nat) am cm g w h1 h2 h3 h4 h5 => specJoined17 (besM (atW ns ls) ls.length) (wF ns ls).length s a am cm g w h1 (by omega) h2 h3 h4 h5)
    have HWH := Lib.hid hh
    rw [ho] at HOU
    clear hh ho HNO
    generalize ajB ns ls x = R at *
    generalize hM : besM (atW ns ls) ls.length = M at *
    clear hM
    generalize hrs : wF ns ls = rs at *
    clear hrs
    have hp := pow_small h13
    have hsh := shl_one (i := rs.length) (by omega)
    have hlt := fun s : Nat => (Nat.lt_pow_two_of_testBit (n := rs.length) s)
    have hge := fun (s : Nat) (h : 2 ^ rs.length ≤ s) => Nat.exists_ge_and_testBit_of_ge_two_pow h
    have hHI := Lib.hid hge
    clear hlt hge
    have hw1 : IntKind.i64.wrap (((2 ^ rs.length : Nat) : Int) - 1) = ((2 ^ rs.length : Nat) : Int) - 1 := IntWalk.i64_in _ (by omega)
    have hBL := Lib.hid (fun (s i : Nat) (h1 : s < 2 ^ rs.length) (h2 : s.testBit i = true) => (show i < rs.length from by
      refine Classical.byContradiction fun hn => ?_
      have := Nat.testBit_lt_two_pow (Nat.lt_of_lt_of_le h1 (Nat.pow_le_pow_right (by omega) (show rs.length ≤ i by omega)))
      rw [h2] at this; cases this))
    have HIB := Lib.hid (inB_iff x 1 (((2 ^ rs.length : Nat) : Int) - 1))
    have HI2 := Lib.hid (HI2.out (((2 ^ rs.length : Nat) : Int) - 1))
    have hin20 : inB ((rs.length : Nat) : Int) 1 20 = true := (inB_iff _ _ _).2 (by omega)
    have HI1 := Lib.hid (HI1.out (rs.length : Int))
    rw [hin20] at HI1
    generalize hib : inB x 1 (((2 ^ rs.length : Nat) : Int) - 1) = ib at *
    clear hib hin20
    obtain ⟨Z, hZ⟩ : ∃ Z : Int, ((2 ^ rs.length : Nat) : Int) = Z := ⟨_, rfl⟩
    have hZ2 : (2 : Int) ^ rs.length = Z := by rw [← hZ]; simp
    rw [hZ] at hsh hw1 HIB HI2
    have wz0 : wrap64 Z = Z := IntWalk.wrap64_in _ (by omega)
    have wz1 : wrap64 (Z - 1) = Z - 1 := IntWalk.wrap64_in _ (by omega)
    have HZ := Lib.hid hZ; clear hZ
    have e3 : ((rs.length : Int)).toNat = rs.length := by omega
    have q0 : (0 : Int) ≤ (rs.length : Int) := by omega
    have q1 : (0 : Int) ≤ (o : Int) := by omega
    have e4 : ((o : Int)).toNat = o := by omega
    have e5 : min o 64 = o := by omega
    have e6 : min rs.length 64 = rs.length := by omega
    go_enter Tryz.func56, Tryz.ntmps56
    obtain ⟨x0, x1, _⟩ := H0.out.1
    go_wp2_with fail
    refine (HFC.out _ (HN.out.step H0.out.below) (HL.out.step H0.out.below)).mono ?_
    rintro e w1 ⟨vf, rfl, hf, hb⟩
    obtain ⟨af, cf, rfl⟩ := faces_form hf
    have H1 := Lib.hid (H0.out.step hb)
    clear hb hf x0 x1 H0
    obtain ⟨x0, x1, _⟩ := H1.out.1
    go_wp2_with fail
    refine (HI1.out _).mono ?_
    rintro e w2 ⟨rfl, rfl⟩
    go_wp2_with fail
    refine (HI2.out _).mono ?_
    rintro e w2 ⟨rfl, rfl⟩
    have HB := Lib.hid H1.out.below
    cases ib
    · have hr : ¬ (1 ≤ x ∧ x ≤ Z - 1) := fun h => by have := HIB.out.2 h; cases this
      have HF := Lib.hid (show R = false from by
        rw [HAJ.out]
        by_cases h0 : x ≤ 0
        · exact jnd_no h0
        · obtain ⟨s, rfl⟩ : ∃ s : Nat, x = s := ⟨x.toNat, by omega⟩
          refine jnd_out fun h => ?_
          obtain ⟨i, h1, h2⟩ := hHI.out s (by have := HZ.out; omega)
          have := (h i h2).1
          omega)
      clear hr
      go_wp2_with fail
      go_ret
      exact ⟨ret_bool HF.out.symm, HB.out⟩
    · obtain ⟨hx1, hx2⟩ := HIB.out.1 rfl
      obtain ⟨s, rfl⟩ : ∃ s : Nat, x = s := ⟨x.toNat, by omega⟩
      have hs2 : s < 2 ^ rs.length := by have := HZ.out; omega
      have hs62 : s < 4611686018427387904 := by omega
      have hbo := bit_at (s := s) (i := o) hs62
      go_wp2_with fail
      refine (HOU.out _ (HN.out.step H1.out.below) (HL.out.step H1.out.below)).mono ?_
      rintro e w3 ⟨rfl, hb⟩
      have H3 := Lib.hid (H1.out.step hb)
      clear hb x0 x1 HB
      have HB := Lib.hid H3.out.below
      obtain ⟨x0, x1, _⟩ := H3.out.1
      by_cases hob : s.testBit o = true
      · rw [if_pos hob] at hbo
        have HF := Lib.hid (show R = false from by
          rw [HAJ.out]
          exact jnd_out fun h => (h o hob).2 rfl)
        clear hob
        go_wp2_with fail
        go_ret
        exact ⟨ret_bool HF.out.symm, HB.out⟩
      · rw [if_neg hob] at hbo
        have hbits : ∀ i, s.testBit i = true → i < rs.length ∧ i ≠ o := fun i hi => ⟨hBL.out s i hs2 hi, fun e => hob (by rw [← e]; exact hi)⟩
        obtain ⟨a, ha⟩ := lowB_ex (s := s) (by omega)
        have HJ := Lib.hid (jnd_is (M := M) ha hbits)
        rw [← HAJ.out] at HJ
        have HJK := Lib.hid (fun am cm g w h1 => HJT.out s a am cm g w h1 hs62 ha (hbits a ha.1).1 fun i hi => (hbits i hi).1)
        clear hob hbits ha HJT hs2
        go_wp2_with fail
        refine (HMT.out _ (HN.out.step H3.out.below) (HL.out.step H3.out.below) HWH.out).mono ?_
        rintro e w4 ⟨vm, g, rfl, hm, hb⟩
        have H4 := Lib.hid (H3.out.step hb)
        have HM4 := Lib.hid (hm.mono (b' := 0) (Nat.zero_le _))
        obtain ⟨am, cm, rfl, -⟩ := hm.form
        clear hm hb x0 x1
        go_wp2_with fail
        refine (HJK.out am cm g _ HM4.out).mono ?_
        rintro e w5 ⟨r, rfl, hr, hb⟩
        have HR := Lib.hid (show R = r from by rw [Bool.eq_iff_iff, HJ.out, hr])
        clear hr
        go_wp2_with fail
        go_ret
        exact ⟨ret_bool HR.out.symm, (H4.out.step hb).below⟩
  · rw [Bool.not_eq_true] at hh
    have HF := Lib.hid (HNO.out hh)
    have hrs0 := wF_none hh
    rw [hrs0] at HFC
    have hin20 : inB 0 1 20 = false := rfl
    have HI1 := Lib.hid (HI1.out 0)
    rw [hin20] at HI1
    clear hh hrs0 HNO HMT HOU HI2
    generalize ajB ns ls x = R at *
    go_enter Tryz.func56, Tryz.ntmps56
    obtain ⟨x0, x1, _⟩ := H0.out.1
    go_wp2_with fail
    refine (HFC.out _ (HN.out.step H0.out.below) (HL.out.step H0.out.below)).mono ?_
    rintro e w1 ⟨vf, rfl, hf, hb⟩
    obtain ⟨af, cf, rfl⟩ := faces_form hf
    have H1 := Lib.hid (H0.out.step hb)
    clear hb hf x0 x1 H0
    simp only [List.length_nil]
    obtain ⟨x0, x1, _⟩ := H1.out.1
    go_wp2_with fail
    refine (HI1.out _).mono ?_
    rintro e w2 ⟨rfl, rfl⟩
    have HB := Lib.hid H1.out.below
    go_wp2_with fail
    go_ret
    exact ⟨ret_bool HF.out.symm, HB.out⟩

end Go.Proofs.YtepacoacalhdcaaGreat
