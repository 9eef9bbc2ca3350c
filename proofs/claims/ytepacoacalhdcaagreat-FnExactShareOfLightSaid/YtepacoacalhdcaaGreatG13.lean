/-
  Several texts in one: a claim has at most 60 files.
-/
import Derived.Test.YtepacoacalhdcaaGreatFaceS
import Derived.Test.YtepacoacalhdcaaGreatMapP

namespace Go.Proofs.YtepacoacalhdcaaGreat
open Go.RowKit
set_option linter.unusedVariables false
set_option linter.unusedSimpArgs false

theorem startsL_new (ns ls : List Nd) (n : Nat) : n ∉ startsL ns ls n := fun h => by have := startsL_lt ns ls n n h; omega

theorem size_alloc2 (w : World) (o p : Obj) : ((w.alloc o).alloc p).heap.size = w.heap.size + 1 + 1 := by simp

/-- What is returned: a new map that holds the rows rs at the keys ks. -/
def WalksNew (ks : List Nat) (rs : List (List Int)) (w : World) (e : Ending) (w' : World) : Prop :=
  ∃ b us, e = .returned (.map (some b)) ∧ MapIs w' b 40 ks us ∧ w.heap.size ≤ b ∧ RowsOf w' w.heap.size us rs ∧ Below w.heap.size w w'

set_option maxRecDepth 100000 in
set_option maxHeartbeats 4000000 in
theorem implWalksBy (ns ls : List Nd) (vn vl : Value) (w : World) (hn : Prs w vn ns) (hl : Prs w vl ls) (hw : winB ns ls = true) (hl0 : 0 < ls.length) :
    Calls Tryz.prog 136 #[.agg #[vn, vl]] w (WalksNew (startsL ns ls (2 * ls.length)) (facesN ns ls (2 * ls.length)) w) := by
  have HN := Lib.hid hn
  have HL := Lib.hid hl
  obtain ⟨A, c, rfl⟩ := prs_form2 hn
  obtain ⟨A2, c2, rfl⟩ := prs_form2 hl
  clear hn hl
  have H0 := Lib.hid (held_pair w (.slice A ns.length c) (.slice A2 ls.length c2) 96)
  have h20 := ((winB_iff ns ls).1 hw).1.2
  have HT := Lib.hid (fun (d : Nat) w h1 h2 (h : d < 2 * ls.length) => implWalkN ns ls (.slice A ns.length c) (.slice A2 ls.length c2) d w h1 h2 hw h)
  unfold IntsNew at HT
  have HWL := Lib.hid (fun d (h : d < 2 * ls.length) => walkN_len hw h)
  have HWD := Lib.hid (fun d (h : d < 2 * ls.length) i (hi : i < (walkN ns ls d).length) => walk_nat hw h (x := atZ (walkN ns ls d) i) (by rw [← atZ_get hi]; exact List.getElem_mem hi))
  have HSU := Lib.hid (facesN_succ ns ls)
  have HST := Lib.hid (startsL_succ ns ls)
  have HSN := Lib.hid (startsL_new ns ls)
  have HLE := Lib.hid (facesN_le ns ls)
  have HSL := Lib.hid (startsL_len ns ls)
  have HZ := Lib.hid (facesN_zero ns ls)
  have HZ2 := Lib.hid (show startsL ns ls 0 = [] from rfl)
  clear hw
  obtain ⟨N, hN⟩ : ∃ N, N = 2 * ls.length := ⟨_, rfl⟩
  have hNI : (2 * (ls.length : Int)) = (N : Int) := by omega
  have hmk : ∀ W : World, (Instr.makeSlice 146 (.int .i64 (2 * (ls.length : Int))) (.int .i64 (2 * (ls.length : Int)))).run Tryz.prog W = .ok (.slice (some ⟨W.heap.size, 0, none⟩) N N) (W.alloc (.cells (madeCells #[.bool false] N) 4)) := by
    rw [hNI]
    exact run_make_row' 146 4 (.bool false) 1 Tryz.underlying146 infoBool rfl .i64 .i64 N (by omega) (by omega)
  have hmm := @run_makeMap Tryz.prog
  rw [← hN] at HT HWL HWD ⊢
  have hN40 : N ≤ 40 := by omega
  clear hNI
  have HNE := Lib.hid hN; clear hN
  generalize facesN ns ls = F at *
  generalize startsL ns ls = K at *
  generalize walkN ns ls = wk at *
  go_enter Tryz.func136, Tryz.ntmps136
  go_wp2_with fail
  clear hmk hmm
  go_loopw [16] (fun i wr => ∃ (d : Nat) (us : List Value), d ≤ N ∧ i = .int .i64 d ∧ MapIs wr (w.heap.size + 1) d (K d) us ∧ RowsOf wr w.heap.size us (F d) ∧ wr.rowIs (w.heap.size + 1 + 1) 4 N (fun q => .bool (seenB (F d) (q : Int))) ∧ Held w wr [(w.heap.size, 0, .slice A ns.length c), (w.heap.size, 1, .slice A2 ls.length c2)]) (fun i _ => N - (intOf i).toNat)
  case atStart =>
    refine ⟨0, [], Nat.zero_le _, rfl, ?_, by rw [HZ.out]; exact RowsOf.nil _ _, ?_, (H0.out.alloc _).alloc _⟩
    · have := (MapIs.made (w.alloc (.cells #[.slice A ns.length c, .slice A2 ls.length c2] 96))).step (below_alloc _ (.cells (madeCells #[.bool false] N) 4))
      rw [HZ2.out]
      simpa using this
    · have := World.rowIs_made ((w.alloc (.cells #[.slice A ns.length c, .slice A2 ls.length c2] 96)).alloc (.map #[] 0)) (.bool false) N 4
      rw [HZ.out]
      simp only [size_alloc2] at this
      exact this.congr fun q _ => by simp [seenB]
  case round =>
    clear H0
    obtain ⟨d, us, hd, rfl, hmp, hf, hrow, hh⟩ := hrel
    have HM := Lib.hid hmp; clear hmp
    have HF := Lib.hid hf; clear hf
    have HB := Lib.hid hrow; clear hrow
    have H1 := Lib.hid hh; clear hh
    obtain ⟨x0, x1, _⟩ := H1.out.1
    by_cases hlt : d < N
    · have c0 := HB.out.cell hlt
      have q1 : (0 : Int) ≤ d := by omega
      have q2 : (d : Int) < (N : Int) := by omega
      by_cases hs : seenB (F d) (d : Int) = true
      · rw [hs] at c0
        have HS := Lib.hid (HSU.out d)
        have HS3 := Lib.hid (HST.out d)
        have HS2 := Lib.hid hs; clear hs
        go_wp2_with fail
        exact ⟨⟨d + 1, us, by omega, by go_num, by rw [HS3.out, if_pos HS2.out]; exact HM.out.mono (Nat.le_succ _), by rw [HS.out, if_pos HS2.out]; exact HF.out, by rw [HS.out, if_pos HS2.out]; exact HB.out, H1.out⟩, by simp [intOf]; omega⟩
      · have hsf : seenB (F d) (d : Int) = false := by simpa using hs
        rw [hsf] at c0
        have HS := Lib.hid (show F (d + 1) = F d ++ [wk d] from by rw [HSU.out d, if_neg hs])
        have HS3 := Lib.hid (show K (d + 1) = K d ++ [d] from by rw [HST.out d, if_neg hs])
        clear hs hsf
        have hwl := HWL.out d hlt
        have HNW := Lib.hid (HSN.out d)
        have hkl := HSL.out d
        have HD := Lib.hid (HWD.out d hlt)
        have HTd := Lib.hid (fun w h1 h2 => HT.out d w h1 h2 hlt)
        have HASC := Lib.hid (fun j (hj : j < (F d).length) p (hp : (atV us j).ownBlock = some p) => ((HF.out.each j hj).own p hp).2)
        generalize F d = Fd at *
        generalize K d = Kd at *
        generalize wk d = r at *
        go_wp2_with fail
        refine (HTd.out _ (HN.out.step H1.out.below) (HL.out.step H1.out.below)).mono ?_
        rintro e w3 ⟨vr, rfl, hm, hb⟩
        obtain ⟨g2, c3, rfl⟩ := hm.some_ hwl.1
        have hsz0 := HB.out.lt
        have hsz3 := hb.size
        have H3 := Lib.hid (H1.out.step hb)
        have HM3 := Lib.hid (HM.out.step hb)
        have HB3 := Lib.hid (rowIs_step HB.out hb)
        have HR3 := Lib.hid ((HF.out.step hb).more (hm.mono (by omega)) (fun j hj p q hp hq => by have h1 := HASC.out j hj p hp; have h2 := (hm.own q hq).1; omega))
        have HO3 := Lib.hid (hm.mono (show w.heap.size ≤ wr.heap.size by omega))
        clear hb hm H1 HM HF HB x0 x1 c0 HASC
        obtain ⟨x0, x1, _⟩ := H3.out.1
        go_wp2_with (first | (at_mapUpdate; refine wpList_put _ rfl _ _ _ rfl HM3.out (k := d) (by omega) (by omega) HNW.out rfl rfl rfl ?_; intro w4 hmap hg4) | (at_lookup; refine wpList_lookNew _ rfl _ _ rfl hmap (by omega) rfl rfl ?_))
        have hbm : ∀ (k : Nat) (cur : Array Value) (T : TypeId), w3.heap[k]? = some (.cells cur T (0, 0)) → w4.heap[k]? = w3.heap[k]? := fun k cur T hc => hg4.block k (lt_of_block hc) (fun e => HM3.out.far hc (by injection e with e; exact e.symm))
        have H4 := Lib.hid (H3.out.stepB (B := w.heap.size + 1) ⟨Nat.lt_succ_self _, Nat.lt_succ_self _, trivial⟩ ((Below.refl _ _).grown hg4 (by omega) (fun k e => by injection e with e; omega)) (Nat.le_succ _))
        have HB4 := Lib.hid (show w4.rowIs (w.heap.size + 1 + 1) 4 N _ from by obtain ⟨cc, h1, h2⟩ := HB3.out; exact HB3.out.of_block (hbm _ _ _ h1))
        have HR4 := Lib.hid (HR3.out.keep fun k cur hc => hbm k cur _ hc)
        have HO4 := Lib.hid (HO3.out.keep fun k e => by obtain ⟨cur, hc⟩ := HO3.out.typed e; exact hbm k cur _ hc)
        have HM4 := Lib.hid hmap
        clear hmap hg4 hbm H3 HM3 HB3 HR3 HO3 x0 x1
        go_loopw [32] (fun i wq => ∃ m : Nat, m ≤ r.length ∧ i = .int .i64 m ∧ MapIs wq (w.heap.size + 1) (d + 1) (Kd ++ [d]) (us ++ [.slice (some ⟨g2, 0, none⟩) r.length c3]) ∧ RowsOf wq w.heap.size (us ++ [.slice (some ⟨g2, 0, none⟩) r.length c3]) (Fd ++ [r]) ∧ Ints wq w.heap.size (.slice (some ⟨g2, 0, none⟩) r.length c3) r ∧ wq.rowIs (w.heap.size + 1 + 1) 4 N (fun q => .bool (seenB Fd (q : Int) || (r.take m).contains (q : Int))) ∧ Held w wq [(w.heap.size, 0, .slice A ns.length c), (w.heap.size, 1, .slice A2 ls.length c2)]) (fun i _ => r.length - (intOf i).toNat)
        case atStart => exact ⟨0, Nat.zero_le _, rfl, HM4.out, HR4.out, HO4.out, HB4.out.congr (fun q _ => by simp), H4.out⟩
        case round =>
          clear H4 HM4 HB4 HR4 HO4
          obtain ⟨m, hm, rfl, hmp, hf, ho, hrow, hh⟩ := hrel
          have HM := Lib.hid hmp; clear hmp
          have HF := Lib.hid hf; clear hf
          have HO := Lib.hid ho; clear ho
          have HB := Lib.hid hrow; clear hrow
          have H1 := Lib.hid hh; clear hh
          by_cases hmr : m < r.length
          · obtain ⟨k0, -, hg, -, -⟩ := HO.out.at_ hmr
            obtain ⟨q, hq, hqN⟩ := HD.out m hmr
            rw [hq] at k0
            have HTK := Lib.hid (fun x => take_has hmr x)
            rw [hq] at HTK
            clear hq
            have b0 := HB.out.frozen q
            have b1 := HB.out.cell hqN
            have p1 : (0 : Int) ≤ m := by omega
            have p2 : (m : Int) < (r.length : Int) := by omega
            have p3 : (0 : Int) ≤ q := by omega
            have p4 : (q : Int) < (N : Int) := by omega
            have HF4 := Lib.hid (HF.out.setFarB (j := q) (x := .bool true) HB.out)
            have HO4 := Lib.hid (HO.out.setFarB (j := q) (x := .bool true) HB.out)
            have HM4 := Lib.hid (HM.out.setFar (g := w.heap.size + 1 + 1) (j := q) (by omega) (.bool true))
            have HB4 := Lib.hid (HB.out.set q (.bool true))
            have H4 := Lib.hid (H1.out.setB (g := w.heap.size + 1 + 1) (j := q) (x := .bool true) (B := w.heap.size + 1) ⟨Nat.lt_succ_self _, Nat.lt_succ_self _, trivial⟩ (by omega) (Nat.le_succ _))
            go_wp2_with fail
            exact ⟨⟨m + 1, by omega, by go_num, HM4.out, HF4.out, HO4.out, HB4.out.congr (fun x hx => by
              rw [HTK.out]
              by_cases e : x = q
              · subst e; simp
              · rw [if_neg e]
                have : ((x : Int) == (q : Int)) = false := by rw [beq_eq_false_iff_ne]; omega
                rw [this, Bool.or_false]), H4.out⟩, by simp [intOf]; omega⟩
          · obtain rfl : m = r.length := by omega
            go_wp2_with fail
            exact ⟨⟨d + 1, _, by omega, by go_num, by rw [HS3.out]; exact HM.out, by rw [HS.out]; exact HF.out, by rw [HS.out]; exact HB.out.congr (fun x hx => by rw [seenB_app, List.take_length]), H1.out⟩, by simp [intOf]; omega⟩
    · obtain rfl : d = N := by omega
      go_wp2_with fail
      go_ret
      exact ⟨_, us, rfl, HM.out.mono hN40, Nat.le_succ _, HF.out, H1.out.below⟩
end Go.Proofs.YtepacoacalhdcaaGreat

namespace Go.Proofs.YtepacoacalhdcaaGreat
open Go.RowKit
set_option linter.unusedVariables false
set_option linter.unusedSimpArgs false

def nilS : Value := .slice none 0 0

theorem held_glass (w : World) (v1 v2 : Value) (T U : TypeId) : Held w ((w.alloc (.cells #[v1, v2] T)).alloc (.cells #[.slice none 0 0, .slice none 0 0, .slice none 0 0, .slice none 0 0] U))
    [(w.heap.size + 1, 0, .slice none 0 0), (w.heap.size + 1, 1, .slice none 0 0), (w.heap.size + 1, 2, .slice none 0 0), (w.heap.size + 1, 3, .slice none 0 0), (w.heap.size, 0, v1), (w.heap.size, 1, v2)] :=
  ((Held.none_ w).new2 w.heap.size rfl [v1, v2] T).new2 (w.heap.size + 1) (by simp) [.slice none 0 0, .slice none 0 0, .slice none 0 0, .slice none 0 0] U

/-- Block g holds these four cells. -/
def Gls4 (W : World) (g : Nat) (T : TypeId) (a b c d : Value) : Prop := W.heap[g]? = some (.cells #[a, b, c, d] T (0, 0))

section

variable {W W' : World} {g : Nat} {T : TypeId} {a b c d x : Value}

theorem Gls4.new (W : World) (g : Nat) (hg : g = W.heap.size) (T : TypeId) (a b c d : Value) : Gls4 (W.alloc (.cells #[a, b, c, d] T)) g T a b c d := by subst hg; exact heap_alloc_new W _

theorem Gls4.lt (h : Gls4 W g T a b c d) : g < W.heap.size := lt_of_block h

theorem Gls4.of_block (h : Gls4 W g T a b c d) (e : W'.heap[g]? = W.heap[g]?) : Gls4 W' g T a b c d := e.trans h

theorem Gls4.step (h : Gls4 W g T a b c d) (hb : Below W.heap.size W W') : Gls4 W' g T a b c d := h.of_block (hb.block g h.lt)

theorem Gls4.grown {row : Option Nat} (h : Gls4 W g T a b c d) (hg : W.grownBy W' row) (hr : row ≠ some g) : Gls4 W' g T a b c d := h.of_block (hg.block g h.lt fun e => hr e.symm)

theorem Gls4.far {k j : Nat} (h : Gls4 W g T a b c d) (hne : g ≠ k) : Gls4 (W.setCell ⟨k, j, none⟩ x) g T a b c d := h.of_block (Below.heap_setCell _ _ _ _ hne)

theorem Gls4.cells (h : Gls4 W g T a b c d) : W.cell? ⟨g, 0, none⟩ = some a ∧ W.cell? ⟨g, 1, none⟩ = some b ∧ W.cell? ⟨g, 2, none⟩ = some c ∧ W.cell? ⟨g, 3, none⟩ = some d := by
  unfold Gls4 at h
  simp [World.cell?, h]

theorem Gls4.frozen (h : Gls4 W g T a b c d) (k : Nat) : W.frozen? ⟨g, k, none⟩ = false := by
  unfold Gls4 at h
  simp [World.frozen?, h]

theorem Gls4.set0 (h : Gls4 W g T a b c d) (x : Value) : Gls4 (W.setCell ⟨g, 0, none⟩ x) g T x b c d := by unfold Gls4 at *; simp [World.setCell, Array.getElem?_modify, h]

theorem Gls4.set1 (h : Gls4 W g T a b c d) (x : Value) : Gls4 (W.setCell ⟨g, 1, none⟩ x) g T a x c d := by unfold Gls4 at *; simp [World.setCell, Array.getElem?_modify, h]

theorem Gls4.set2 (h : Gls4 W g T a b c d) (x : Value) : Gls4 (W.setCell ⟨g, 2, none⟩ x) g T a b x d := by unfold Gls4 at *; simp [World.setCell, Array.getElem?_modify, h]

theorem Gls4.set3 (h : Gls4 W g T a b c d) (x : Value) : Gls4 (W.setCell ⟨g, 3, none⟩ x) g T a b c x := by unfold Gls4 at *; simp [World.setCell, Array.getElem?_modify, h]

theorem Gls4.setAll (h : Gls4 W g T a b c d) (x y z u : Value) : Gls4 ((((W.setCell ⟨g, 0, none⟩ x).setCell ⟨g, 1, none⟩ y).setCell ⟨g, 2, none⟩ z).setCell ⟨g, 3, none⟩ u) g T x y z u := (((h.set0 x).set1 y).set2 z).set3 u

end

theorem below_set4 {w W : World} {g : Nat} {x y z u : Value} (h : Below w.heap.size w W) (hg : w.heap.size ≤ g) : Below w.heap.size w ((((W.setCell ⟨g, 0, none⟩ x).setCell ⟨g, 1, none⟩ y).setCell ⟨g, 2, none⟩ z).setCell ⟨g, 3, none⟩ u) :=
  (((h.setCell (p := ⟨g, 0, none⟩) hg x).setCell (p := ⟨g, 1, none⟩) hg y).setCell (p := ⟨g, 2, none⟩) hg z).setCell (p := ⟨g, 3, none⟩) hg u

/-- What is returned for a window that is not whole. -/
def GlassNo (w : World) (e : Ending) (w' : World) : Prop := e = .returned (.tuple #[.agg #[.slice none 0 0, .slice none 0 0, .slice none 0 0, .slice none 0 0], .bool false]) ∧ Below w.heap.size w w'

set_option maxRecDepth 100000 in
set_option maxHeartbeats 4000000 in
theorem implGlassNo (ns ls : List Nd) (vn vl : Value) (w : World) (hn : Prs w vn ns) (hl : Prs w vl ls) (hh : wholeB ns ls = false) :
    Calls Tryz.prog 74 #[.agg #[vn, vl]] w (GlassNo w) := by
  have HN := Lib.hid hn
  have HL := Lib.hid hl
  obtain ⟨A, c, rfl⟩ := prs_form2 hn
  obtain ⟨A2, c2, rfl⟩ := prs_form2 hl
  clear hn hl
  have HW := Lib.hid (fun w h1 h2 => implWhole ns ls (.slice A ns.length c) (.slice A2 ls.length c2) w h1 h2)
  have H0 := Lib.hid (held_glass w (.slice A ns.length c) (.slice A2 ls.length c2) 32 98)
  rw [hh] at HW
  clear hh
  go_enter Tryz.func74, Tryz.ntmps74
  go_wp2_with fail
  refine (HW.out _ (HN.out.step H0.out.below) (HL.out.step H0.out.below)).mono ?_
  rintro e w1 ⟨rfl, hb⟩
  have H2 := Lib.hid (H0.out.step hb)
  have K := Lib.hid ((Gls4.new (w.alloc (.cells #[.slice A ns.length c, .slice A2 ls.length c2] 32)) (w.heap.size + 1) (by simp) 98 (.slice none 0 0) (.slice none 0 0) (.slice none 0 0) (.slice none 0 0)).step hb)
  clear hb H0
  obtain ⟨x0, x1, x2, x3, x4, x5, _⟩ := H2.out.1
  have f0 := K.out.frozen 0
  have f1 := K.out.frozen 1
  have f2 := K.out.frozen 2
  have f3 := K.out.frozen 3
  go_wp2_with fail
  obtain ⟨r0, r1, r2, r3⟩ := (K.out.setAll (.slice none 0 0) (.slice none 0 0) (.slice none 0 0) (.slice none 0 0)).cells
  exact bodyPost_ret (v := .tuple #[.agg #[.slice none 0 0, .slice none 0 0, .slice none 0 0, .slice none 0 0], .bool false]) (by simp [results, Tryz.results74, go_sem, r0, r1, r2, r3]) rfl ⟨rfl, below_set4 H2.out.below (Nat.le_succ _)⟩

theorem Ints.setFarN {w : World} {B b j : Nat} {u x : Value} {xs : List Int} (h : Ints w B u xs) (hne : ∀ k, u.ownBlock = some k → k ≠ b) : Ints (w.setCell ⟨b, j, none⟩ x) B u xs :=
  h.keep fun k hk => Below.heap_setCell _ _ _ _ (hne k hk)

theorem RowV.farI {w : World} {B b n k : Nat} {v : Value} {us : List Value} {f : Nat → Value} (h : RowV w B v us) (hr : w.rowIs b 3 n f) (hk : v.ownBlock = some k) : k ≠ b := by
  rintro rfl
  obtain ⟨c1, h1⟩ := h.typed hk
  obtain ⟨c2, h2, _⟩ := hr
  rw [h1] at h2
  simp at h2

theorem RowV.farG {w : World} {B g k : Nat} {v : Value} {us : List Value} {p q r s : Value} (h : RowV w B v us) (hr : Gls4 w g 98 p q r s) (hk : v.ownBlock = some k) : k ≠ g := by
  rintro rfl
  obtain ⟨c1, h1⟩ := h.typed hk
  unfold Gls4 at hr
  rw [h1] at hr
  simp at hr

theorem Ints.farG {w : World} {B g k : Nat} {u : Value} {xs : List Int} {p q r s : Value} (h : Ints w B u xs) (hr : Gls4 w g 98 p q r s) (hk : u.ownBlock = some k) : k ≠ g := by
  rintro rfl
  obtain ⟨c1, h1⟩ := h.typed hk
  unfold Gls4 at hr
  rw [h1] at hr
  simp at hr

theorem rowIs_farG {w : World} {b n g : Nat} {f : Nat → Value} {p q r s : Value} (h : w.rowIs b 3 n f) (hr : Gls4 w g 98 p q r s) : b ≠ g := by
  rintro rfl
  obtain ⟨c2, h2, _⟩ := h
  unfold Gls4 at hr
  rw [hr] at h2
  simp at h2

theorem RowsOf.setFarN {w : World} {B b j : Nat} {x : Value} {us : List Value} {rs : List (List Int)} (h : RowsOf w B us rs) (hne : ∀ i, i < rs.length → ∀ k, (atV us i).ownBlock = some k → k ≠ b) : RowsOf (w.setCell ⟨b, j, none⟩ x) B us rs :=
  ⟨h.len, fun i hi => (h.each i hi).setFarN (hne i hi), h.asc⟩

theorem FaceV.rows {w : World} {B : Nat} {v : Value} {us : List Value} {rs : List (List Int)} (h : FaceV w B v us rs) : RowsOf w B us rs := ⟨h.len, h.each, h.asc⟩

theorem FaceV.mk_ {w : World} {B : Nat} {v : Value} {us : List Value} {rs : List (List Int)} (h : RowV w B v us) (r : RowsOf w B us rs) : FaceV w B v us rs := ⟨h, r.len, r.each, r.asc⟩

theorem FaceV.setFarN {w : World} {B b n j : Nat} {v x : Value} {us : List Value} {rs : List (List Int)} {f : Nat → Value} (h : FaceV w B v us rs) (hr : w.rowIs b 3 n f) (hne : ∀ i, i < rs.length → ∀ k, (atV us i).ownBlock = some k → k ≠ b) : FaceV (w.setCell ⟨b, j, none⟩ x) B v us rs :=
  FaceV.mk_ (h.row.keep fun k hk => Below.heap_setCell _ _ _ _ (h.row.farI hr hk)) (h.rows.setFarN hne)

theorem FaceV.setFarG {w : World} {B g j : Nat} {v x : Value} {us : List Value} {rs : List (List Int)} {p q r s : Value} (h : FaceV w B v us rs) (hr : Gls4 w g 98 p q r s) : FaceV (w.setCell ⟨g, j, none⟩ x) B v us rs :=
  FaceV.mk_ (h.row.keep fun k hk => Below.heap_setCell _ _ _ _ (h.row.farG hr hk)) (h.rows.setFarN fun i hi k hk => (h.each i hi).farG hr hk)

theorem RowsOf.setFarG {w : World} {B g j : Nat} {x : Value} {us : List Value} {rs : List (List Int)} {p q r s : Value} (h : RowsOf w B us rs) (hr : Gls4 w g 98 p q r s) : RowsOf (w.setCell ⟨g, j, none⟩ x) B us rs := h.setFarN fun i hi k hk => (h.each i hi).farG hr hk

theorem atV_take {us : List Value} {n k : Nat} (h : k < n) : atV (us.take n) k = atV us k := by unfold atV; simp [List.getD, h]

theorem atR_take {rs : List (List Int)} {n k : Nat} (h : k < n) : atR (rs.take n) k = atR rs k := by unfold atR; simp [List.getD, h]

theorem takeV_succ {us : List Value} {k : Nat} (h : k < us.length) : us.take (k + 1) = us.take k ++ [atV us k] := by rw [List.take_succ_eq_append_getElem h, atV_get h]

theorem takeR_succ {rs : List (List Int)} {k : Nat} (h : k < rs.length) : rs.take (k + 1) = rs.take k ++ [atR rs k] := by rw [List.take_succ_eq_append_getElem h, atR_get h]

theorem rowIs_ints {w : World} {b B n : Nat} {f : Nat → Int} {xs : List Int} (h : w.rowIs b 3 n (fun d => .int .i64 (f d))) (hB : B ≤ b) (hn : n ≤ 1000000) (hx : xs.length = n) (hf : ∀ d, d < n → f d = atZ xs d) : Ints w B (.slice (some ⟨b, 0, none⟩) n n) xs := by
  obtain ⟨c, hb, hc, hv⟩ := h
  unfold Ints
  refine ⟨by simp, .inr ⟨b, n, c, by rw [hx], hB, hb, by omega, by unfold maxLen; omega, by omega, ?_⟩⟩
  rw [Nat.mul_one]
  apply List.ext_getElem?
  intro j
  by_cases hj : j < n
  · have e := hv j hj
    have e2 := hf j hj
    rw [List.getElem?_take, if_pos (by omega), Array.getElem?_toList, e]
    simp only [e2]
    simp [show j < xs.length by omega, atZ, List.getD]
  · rw [List.getElem?_eq_none (by simp; omega), List.getElem?_eq_none (by simp; omega)]

theorem starts_pos {ns ls : List Nd} (hw : winB ns ls = true) (hl0 : 0 < ls.length) : 0 < (facesN ns ls (2 * ls.length)).length := by
  have h := faces_all hw (2 * ls.length) 0 (Nat.le_refl _) (by omega)
  obtain ⟨r, hr, _⟩ := (seenB_iff _ _).1 h
  exact List.length_pos_of_mem hr

theorem fill_store {w : World} {b N q f : Nat} {F1 F2 : Nat → Int} (h : w.rowIs b 3 N (fun d => .int .i64 (F1 d))) (hs : ∀ d : Nat, (if d = q then (f : Int) else F1 d) = F2 d) :
    (w.setCell ⟨b, q, none⟩ (.int .i64 (f : Int))).rowIs b 3 N (fun d => .int .i64 (F2 d)) :=
  (h.set q (.int .i64 (f : Int))).congr fun d _ => by
    rw [← hs d]
    by_cases e : d = q
    · rw [if_pos e, if_pos e]
    · rw [if_neg e, if_neg e]

/-- What is returned for a whole window: the drawing, its faces, the face at each dart. -/
def GlassYes (vn vl : Value) (rs : List (List Int)) (ds : List Int) (w : World) (e : Ending) (w' : World) : Prop :=
  ∃ vf va, e = .returned (.tuple #[.agg #[vn, vl, vf, va], .bool true]) ∧ Faces w' w.heap.size vf rs ∧ Ints w' w.heap.size va ds ∧ Below w.heap.size w w'

set_option maxRecDepth 100000 in
set_option maxHeartbeats 8000000 in
theorem implGlassYes (ns ls : List Nd) (vn vl : Value) (w : World) (hn : Prs w vn ns) (hl : Prs w vl ls) (hh : wholeB ns ls = true) :
    Calls Tryz.prog 74 #[.agg #[vn, vl]] w (GlassYes vn vl (facesL ns ls) (atW ns ls) w) := by
  have HN := Lib.hid hn
  have HL := Lib.hid hl
  obtain ⟨A, c, rfl⟩ := prs_form2 hn
  obtain ⟨A2, c2, rfl⟩ := prs_form2 hl
  clear hn hl
  obtain ⟨hw, hl0, h20, h12⟩ := whole_win hh
  have HW := Lib.hid (fun w h1 h2 => implWhole ns ls (.slice A ns.length c) (.slice A2 ls.length c2) w h1 h2)
  have HD := Lib.hid (drawingOf_any A A2 ns.length c ls.length c2)
  unfold ValIs at HD
  have H0 := Lib.hid (held_glass w (.slice A ns.length c) (.slice A2 ls.length c2) 32 98)
  have HWB := Lib.hid (fun w h1 h2 => implWalksBy ns ls (.slice A ns.length c) (.slice A2 ls.length c2) w h1 h2 hw hl0)
  unfold WalksNew at HWB
  have HPOS := Lib.hid (starts_pos hw hl0)
  have HKL := Lib.hid (facesN_len ns ls (2 * ls.length))
  have HSO := Lib.hid (startsL_sorted ns ls (2 * ls.length))
  have HSL := Lib.hid (fun k (hk : k < (startsL ns ls (2 * ls.length)).length) => startsL_lt ns ls (2 * ls.length) _ (List.getElem_mem hk))
  have HFX := Lib.hid (fun k i (hk : k < (facesN ns ls (2 * ls.length)).length) (hi : i < (atR (facesN ns ls (2 * ls.length)) k).length) => fix_walk hw hk hi)
  have HRL := Lib.hid (fun k (hk : k < (facesN ns ls (2 * ls.length)).length) => row_len (ns := ns) (ls := ls) (k := k) (by rw [wF_whole hh]; exact hk))
  rw [wF_whole hh] at HRL
  have HEND := Lib.hid (fun d (h : d < 2 * ls.length) => fillF_end hw h)
  have HAL := Lib.hid (atW_len ns ls)
  rw [hh] at HW
  have HFL := Lib.hid (facesN_le ns ls (2 * ls.length))
  unfold facesL at HFX HEND ⊢
  clear hh hw
  obtain ⟨N, hN⟩ : ∃ N, N = 2 * ls.length := ⟨_, rfl⟩
  have hNI : (2 * (ls.length : Int)) = (N : Int) := by omega
  have infoI : (Tryz.prog.info? 3).map (fun i => (i.zero, i.size, i.bytes)) = some (some (.int .i64 0), 1, 8) := infoInt
  have hmk : ∀ W : World, (Instr.makeSlice 27 (.int .i64 (2 * (ls.length : Int))) (.int .i64 (2 * (ls.length : Int)))).run Tryz.prog W = .ok (.slice (some ⟨W.heap.size, 0, none⟩) N N) (W.alloc (.cells (madeCells #[.int .i64 0] N) 3)) := by
    rw [hNI]
    exact run_make_row' 27 3 (.int .i64 0) 8 Tryz.underlying27 infoI rfl .i64 .i64 N (by omega) (by omega)
  clear infoI hNI
  rw [← hN] at HWB HPOS HKL HSO HSL HFX HRL HEND HAL HFL ⊢
  have hN40 : N ≤ 40 := by omega
  have HNE := Lib.hid hN; clear hN
  generalize facesN ns ls N = F at *
  generalize startsL ns ls N = K at *
  generalize atW ns ls = at0 at *
  go_enter Tryz.func74, Tryz.ntmps74
  go_wp2_with fail
  refine (HW.out _ (HN.out.step H0.out.below) (HL.out.step H0.out.below)).mono ?_
  rintro e w1 ⟨rfl, hb⟩
  have H2 := Lib.hid (H0.out.step hb)
  have K2 := Lib.hid ((Gls4.new (w.alloc (.cells #[.slice A ns.length c, .slice A2 ls.length c2] 32)) (w.heap.size + 1) (by simp) 98 (.slice none 0 0) (.slice none 0 0) (.slice none 0 0) (.slice none 0 0)).step hb)
  clear hb H0
  obtain ⟨x0, x1, x2, x3, x4, x5, _⟩ := H2.out.1
  go_wp2_with fail
  refine (HD.out _).mono ?_
  rintro e w2 ⟨rfl, hb⟩
  have H3 := Lib.hid (H2.out.step hb)
  have K3 := Lib.hid (K2.out.step hb)
  clear hb H2 K2 x0 x1 x2 x3 x4 x5
  have hs2 : w.heap.size + 2 ≤ w2.heap.size := H3.out.2.1.1
  have G4 := Lib.hid (Gls4.new w2 _ rfl 98 (.slice A ns.length c) (.slice A2 ls.length c2) (.slice none 0 0) (.slice none 0 0))
  have K4 := Lib.hid (K3.out.step (below_alloc _ (.cells #[.slice A ns.length c, .slice A2 ls.length c2, .slice none 0 0, .slice none 0 0] 98)))
  have B4 := Lib.hid (H3.out.below.alloc (by omega) (.cells #[.slice A ns.length c, .slice A2 ls.length c2, .slice none 0 0, .slice none 0 0] 98))
  go_wp2_with fail
  have hs3 : w2.heap.size < (w2.alloc (.cells #[.slice A ns.length c, .slice A2 ls.length c2, .slice none 0 0, .slice none 0 0] 98)).heap.size := G4.out.lt
  generalize w2.alloc (.cells #[.slice A ns.length c, .slice A2 ls.length c2, .slice none 0 0, .slice none 0 0] 98) = w3 at *
  obtain ⟨g, hg⟩ : ∃ g, g = w2.heap.size := ⟨_, rfl⟩
  rw [← hg] at G4 hs3 hs2 ⊢
  clear hg H3 K3
  refine (HWB.out _ (HN.out.step B4.out) (HL.out.step B4.out)).mono ?_
  rintro e w4 ⟨bm, us, rfl, hmp, hbm, hr, hb⟩
  have hs4 := hb.size
  have hus : us.length = F.length := hr.len
  have B5 := Lib.hid (B4.out.trans (hb.mono B4.out.size))
  have G5 := Lib.hid (G4.out.step hb)
  have K5 := Lib.hid (K4.out.step hb)
  have M5 := Lib.hid hmp
  have R5 := Lib.hid (hr.mono (show w.heap.size ≤ w3.heap.size by omega))
  have HRB := Lib.hid (fun j (hj : j < F.length) p (hp : (atV us j).ownBlock = some p) => ((hr.each j hj).own p hp).2)
  clear hb hmp hr B4 G4 K4
  obtain ⟨y0, y1, y2, y3⟩ := (G5.out.step (below_alloc _ (.cells (madeCells #[.int .i64 0] N) 3))).cells
  have f3 := (G5.out.step (below_alloc _ (.cells (madeCells #[.int .i64 0] N) 3))).frozen 3
  obtain ⟨z0, z1, z2, z3⟩ := G5.out.cells
  go_wp2_with fail
  have hb5 : ∃ b5, b5 = w4.heap.size := ⟨_, rfl⟩
  obtain ⟨b5, hb5⟩ := hb5
  have hG := G5.out.step (below_alloc _ (.cells (madeCells #[.int .i64 0] N) 3))
  have hB := World.rowIs_made w4 (.int .i64 0) N 3
  have hM := M5.out.step (below_alloc _ (.cells (madeCells #[.int .i64 0] N) 3))
  have hbg : bm ≠ g := hM.far hG
  have L6 := Lib.hid (hB.setOther (a := ⟨g, 3, none⟩) (by show w4.heap.size ≠ g; omega) (.slice (some ⟨w4.heap.size, 0, none⟩) N N))
  have G6 := Lib.hid (hG.set3 (.slice (some ⟨w4.heap.size, 0, none⟩) N N))
  have K6 := Lib.hid ((K5.out.step (below_alloc _ (.cells (madeCells #[.int .i64 0] N) 3))).far (k := g) (j := 3) (x := .slice (some ⟨w4.heap.size, 0, none⟩) N N) (by omega))
  have M6 := Lib.hid (hM.setFar (j := 3) hbg (.slice (some ⟨w4.heap.size, 0, none⟩) N N))
  have R6 := Lib.hid ((R5.out.step (below_alloc _ (.cells (madeCells #[.int .i64 0] N) 3))).setFarG (j := 3) (x := .slice (some ⟨w4.heap.size, 0, none⟩) N N) hG)
  have B6 := Lib.hid ((B5.out.alloc (by omega) (.cells (madeCells #[.int .i64 0] N) 3)).setCell (p := ⟨g, 3, none⟩) (show w.heap.size ≤ g by omega) (.slice (some ⟨w4.heap.size, 0, none⟩) N N))
  have hs6 : w4.heap.size + 1 ≤ ((w4.alloc (.cells (madeCells #[.int .i64 0] N) 3)).setCell ⟨g, 3, none⟩ (.slice (some ⟨w4.heap.size, 0, none⟩) N N)).heap.size := by simp [World.setCell]
  clear hG hB hM B5 G5 K5 M5 R5 y0 y1 y2 y3 z0 z1 z2 z3 f3
  generalize (w4.alloc (.cells (madeCells #[.int .i64 0] N) 3)).setCell ⟨g, 3, none⟩ (.slice (some ⟨w4.heap.size, 0, none⟩) N N) = w6 at *
  rw [← hb5] at L6 G6 hs6 HRB
  have hgb : g < b5 := by omega
  have hwb : w.heap.size + 2 ≤ b5 := by omega
  clear hb5 hs4
  refine (keysC _ _).mono ?_
  rintro e w' ⟨rfl, rfl⟩
  go_wp2_with fail
  have hkl := HKL.out
  refine (sortedC M6.out HSO.out (by rw [← hkl]; have := HFL.out; omega)).mono ?_
  rintro e w7 ⟨vk, rfl, hk, hb⟩
  have hb6 : Below w6.heap.size w6 w7 := (below_alloc w6 _).trans (hb.mono (by simp))
  have hkk : (K.map fun k : Nat => (k : Int)).length = F.length := by rw [List.length_map, hkl]
  obtain ⟨gk, ck, rfl⟩ := hk.some_ (by rw [hkk]; exact HPOS.out)
  rw [hkk] at hk ⊢
  have L7 := Lib.hid (L6.out.of_block (hb6.block _ L6.out.lt))
  have G7 := Lib.hid (G6.out.step hb6)
  have K7 := Lib.hid (K6.out.step hb6)
  have M7 := Lib.hid (M6.out.step hb6)
  have R7 := Lib.hid (R6.out.step hb6)
  have B7 := Lib.hid (B6.out.trans (hb6.mono B6.out.size))
  have I7 := Lib.hid (hk.mono (show b5 + 1 ≤ _ by simp; omega))
  have HKA := Lib.hid (fun f (hf : f < F.length) => (show atZ (K.map fun k : Nat => (k : Int)) f = ((K[f]'(by rw [← hkl]; exact hf) : Nat) : Int) from by simp [atZ, List.getD, show f < K.length by omega]))
  have HKI := Lib.hid (fun f (hf : f < F.length) => HSL.out f (by rw [← hkl]; exact hf))
  clear hb hb6 hk L6 G6 K6 M6 R6 B6
  go_wp2_with fail
  have HKN := Lib.hid hkk
  clear hkk
  generalize hks : (K.map fun k : Nat => (k : Int)) = ks at *
  clear hks
  go_loopw [31] (fun i wr => ∃ (f : Nat) (vf : Value), f ≤ F.length ∧ i = .int .i64 f ∧ Gls4 wr g 98 (.slice A ns.length c) (.slice A2 ls.length c2) vf (.slice (some ⟨b5, 0, none⟩) N N) ∧ FaceV wr w.heap.size vf (us.take f) (F.take f) ∧ wr.rowIs b5 3 N (fun d => .int .i64 (fillF F f 0 d)) ∧ MapIs wr bm 40 K us ∧ RowsOf wr w.heap.size us F ∧ Ints wr (b5 + 1) (.slice (some ⟨gk, 0, none⟩) F.length ck) ks ∧ Gls4 wr (w.heap.size + 1) 98 (.slice none 0 0) (.slice none 0 0) (.slice none 0 0) (.slice none 0 0) ∧ Below w.heap.size w wr) (fun i _ => F.length - (intOf i).toNat)
  case atStart => exact ⟨0, _, Nat.zero_le _, rfl, G7.out, FaceV.nil _ _, L7.out.congr (fun d _ => by rw [fillF_zero]), M7.out, R7.out, I7.out, K7.out, B7.out⟩
  case round =>
    clear L7 G7 K7 M7 R7 I7 B7
    obtain ⟨f, vf, hf, rfl, hg, hfv, hl, hm, hr, hi, hk, hb⟩ := hrel
    obtain ⟨av, nv, cv, rfl⟩ : ∃ av nv cv, vf = .slice av nv cv := by obtain ⟨a, k, e, -, -⟩ := hfv.form; exact ⟨_, _, _, e⟩
    have G1 := Lib.hid hg; clear hg
    have F1 := Lib.hid hfv; clear hfv
    have L1 := Lib.hid hl; clear hl
    have M1 := Lib.hid hm; clear hm
    have R1 := Lib.hid hr; clear hr
    have I1 := Lib.hid hi; clear hi
    have K1 := Lib.hid hk; clear hk
    have B1 := Lib.hid hb; clear hb
    by_cases hlt : f < F.length
    · have hfk : f < K.length := by omega
      have hsz1 : w.heap.size ≤ wr.heap.size := B1.out.size
      have hfl : F.length ≤ N := HFL.out
      have k0 := (I1.out.at_ (j := f) (by rw [HKN.out]; exact hlt)).1
      rw [HKA.out f hlt] at k0
      have hkn := HKI.out f hlt
      have hrl := HRL.out f hlt
      obtain ⟨gu, cu, hu⟩ := (R1.out.each f hlt).some_ hrl.2
      have HU := Lib.hid hu
      have HUI := R1.out.each f hlt
      rw [hu] at HUI
      have HUI := Lib.hid HUI
      have HUB := Lib.hid (fun j (hj : j < f) p q (hp : (atV (us.take f) j).ownBlock = some p) (hq : (Value.slice (some ⟨gu, 0, none⟩) (atR F f).length cu).ownBlock = some q) => R1.out.asc j f hj hlt p q (by rw [atV_take hj] at hp; exact hp) (by rw [hu]; exact hq))
      have HTV := Lib.hid (takeV_succ (us := us) (k := f) (by omega))
      rw [hu] at HTV
      have HTR := Lib.hid (takeR_succ hlt)
      have HFM := Lib.hid (fun i (hi : i < (atR F f).length) => HFX.out f i hlt hi)
      have HFS := Lib.hid (fun i q (hi : i < (atR F f).length) (h1 : atZ (atR F f) i = (q : Nat)) (h2 : fIx F (q : Int) = f) d => fillF_store hi h1 h2 d)
      have HFN := Lib.hid (fun d => fillF_next hlt d)
      obtain ⟨kf, hkf⟩ : ∃ kf, K[f] = kf := ⟨_, rfl⟩
      rw [hkf] at k0 hkn
      have HKF := Lib.hid hkf
      have hul : (us.take f).length ≤ 40 := by rw [List.length_take]; have := HFL.out; omega
      have hlr : (F.take f).length = f := by rw [List.length_take]; omega
      clear hu hkf
      have F1 := F1.out
      obtain ⟨usf, husf⟩ : ∃ usf, usf = us.take f := ⟨_, rfl⟩
      rw [← husf] at F1 hul HTV HUB
      clear husf
      have F1 := Lib.hid F1
      have p1 : (0 : Int) ≤ f := by omega
      have p2 : (f : Int) < (F.length : Int) := by omega
      obtain ⟨i0, hi, hz0, hzz1, hzz2⟩ := info_parts infoRow
      obtain ⟨z0, z1, z2, z3⟩ := G1.out.cells
      obtain ⟨r, hr0⟩ : ∃ r, r = atR F f := ⟨_, rfl⟩
      have HRR := Lib.hid hr0.symm
      rw [← hr0] at hrl HU HUI HUB HTV HTR HFM HFS HFN
      clear hr0
      go_wp2_with (first | (at_lookup; refine wpList_look _ rfl _ _ rfl M1.out (i := f) hfk (k := (kf : Int)) (by rw [HKF.out]) (by rw [HKF.out]; omega) rfl rfl HU.out ?_) | (at_builtin; refine wpList_append_own _ rfl _ _ 90 rfl w.heap.size 27 i0 (.slice none 0 0) 1 24 Tryz.underlying90 hi hz0 hzz1 hzz2 rfl (by decide) _ _ _ rfl (World.ownsRow.alloc F1.out.row _) ⟨_, 0, none⟩ 1 1 [.slice (some ⟨gu, 0, none⟩) r.length cu] rfl rfl ?c1 ?c2 ?c3 ?c4 ?c5 ?_))
      case c1 => exact cell_one_new _ _ _
      case c2 => simp [Value.oneCell']
      case c3 => unfold maxLen; omega
      case c4 => omega
      case c5 => simp <;> omega
      intro v' w8 hown hgrow _
      have ha := below_alloc wr (.cells #[.slice (some ⟨gu, 0, none⟩) r.length cu] 27)
      have hF := F1.out.step ha
      have hG := G1.out.step ha
      have hL := rowIs_step L1.out ha
      have hM := M1.out.step ha
      have hR := R1.out.step ha
      have hI := I1.out.step ha
      have hK := K1.out.step ha
      have hti : ∀ (k : Nat) (cur : Array Value), (wr.alloc (.cells #[.slice (some ⟨gu, 0, none⟩) r.length cu] 27)).heap[k]? = some (.cells cur 3 (0, 0)) → w8.heap[k]? = (wr.alloc (.cells #[.slice (some ⟨gu, 0, none⟩) r.length cu] 27)).heap[k]? := fun k cur hc => hgrow.block k (lt_of_block hc) (fun e => by
        obtain ⟨c1, h1⟩ := hF.row.typed e.symm
        rw [hc] at h1
        simp at h1)
      have F8 := hF.more (HUI.out.step ha) (fun j hj p q hp hq => HUB.out j (by omega) p q hp hq) hgrow hown
      obtain ⟨a8, n8, c8, rfl⟩ : ∃ a n c, v' = .slice a n c := by obtain ⟨a, k, e, -, -⟩ := F8.form; exact ⟨_, _, _, e⟩
      rw [← HTV.out, ← HTR.out] at F8
      have G8 := hG.grown hgrow (fun e => hF.row.farG hG e rfl)
      have L8 := rowIs_grown hL hgrow (fun e => hF.row.farI hL e rfl)
      have M8 := hM.grown hgrow (fun e => by obtain ⟨c1, h1⟩ := hF.row.typed e; exact hM.far h1 rfl)
      have R8 := hR.keep hti
      have I8 := hI.keep (fun k e => by obtain ⟨cur, hc⟩ := hI.typed e; exact hti k cur hc)
      have K8 := hK.grown hgrow (fun e => hF.row.farG hK e rfl)
      have B8 := (B1.out.alloc B1.out.size (.cells #[.slice (some ⟨gu, 0, none⟩) r.length cu] 27)).grown hgrow (by have := B1.out.size; simp; omega) (fun k e => (hF.row.own k e).1)
      have hbg : bm ≠ g := by unfold Gls4 at G8; exact M8.far G8
      have hbk : b5 ≠ g := by omega
      have G9 := Lib.hid (G8.set2 (.slice a8 n8 c8))
      have F9 := Lib.hid (F8.setFarG (j := 2) (x := .slice a8 n8 c8) G8)
      have L9 := Lib.hid (L8.setOther (a := ⟨g, 2, none⟩) hbk (.slice a8 n8 c8))
      have M9 := Lib.hid (M8.setFar (j := 2) hbg (.slice a8 n8 c8))
      have R9 := Lib.hid (R8.setFarG (j := 2) (x := .slice a8 n8 c8) G8)
      have I9 := Lib.hid (I8.setFarN (j := 2) (x := .slice a8 n8 c8) (fun k e => I8.farG G8 e))
      have K9 := Lib.hid (K8.far (k := g) (j := 2) (x := .slice a8 n8 c8) (by omega))
      have B9 := Lib.hid (B8.setCell (p := ⟨g, 2, none⟩) (show w.heap.size ≤ g by omega) (.slice a8 n8 c8))
      obtain ⟨t0, t1, t2, t3⟩ := G8.cells
      have f2 := G8.frozen 2
      clear ha hF hG hL hM hR hI hK hti F8 G8 L8 M8 R8 I8 K8 B8 hown hgrow G1 F1 L1 M1 R1 I1 K1 B1 z0 z1 z2 z3 k0
      go_wp2_with (at_lookup; refine wpList_look _ rfl _ _ rfl M9.out (i := f) hfk (k := (kf : Int)) (by rw [HKF.out]) (by rw [HKF.out]; omega) rfl rfl HU.out ?_)
      clear t0 t1 t2 t3 f2
      generalize w8.setCell ⟨g, 2, none⟩ (.slice a8 n8 c8) = w9 at *
      go_loopw [48] (fun i wq => ∃ m : Nat, m ≤ r.length ∧ i = .int .i64 m ∧ Gls4 wq g 98 (.slice A ns.length c) (.slice A2 ls.length c2) (.slice a8 n8 c8) (.slice (some ⟨b5, 0, none⟩) N N) ∧ FaceV wq w.heap.size (.slice a8 n8 c8) (us.take (f + 1)) (F.take (f + 1)) ∧ wq.rowIs b5 3 N (fun d => .int .i64 (fillF F f m d)) ∧ MapIs wq bm 40 K us ∧ RowsOf wq w.heap.size us F ∧ Ints wq (b5 + 1) (.slice (some ⟨gk, 0, none⟩) F.length ck) ks ∧ Gls4 wq (w.heap.size + 1) 98 (.slice none 0 0) (.slice none 0 0) (.slice none 0 0) (.slice none 0 0) ∧ Below w.heap.size w wq) (fun i _ => r.length - (intOf i).toNat)
      case atStart => exact ⟨0, Nat.zero_le _, rfl, G9.out, F9.out, L9.out, M9.out, R9.out, I9.out, K9.out, B9.out⟩
      case round =>
        clear G9 F9 L9 M9 R9 I9 K9 B9
        obtain ⟨m, hm, rfl, hg, hfv, hl, hm2, hr, hi, hk, hb⟩ := hrel
        have G1 := Lib.hid hg; clear hg
        have F1 := Lib.hid hfv; clear hfv
        have L1 := Lib.hid hl; clear hl
        have M1 := Lib.hid hm2; clear hm2
        have R1 := Lib.hid hr; clear hr
        have I1 := Lib.hid hi; clear hi
        have K1 := Lib.hid hk; clear hk
        have B1 := Lib.hid hb; clear hb
        by_cases hmr : m < r.length
        · have hru := R1.out.each f hlt
          rw [HU.out, HRR.out] at hru
          obtain ⟨l0, -, -, -, -⟩ := hru.at_ hmr
          obtain ⟨q, hq, hqN, hfi⟩ := HFM.out m hmr
          rw [hq] at l0
          have HST := Lib.hid (HFS.out m q hmr hq hfi)
          clear hq hfi hru
          have e0 := L1.out.cell hqN
          generalize fillF F f m q = fq at e0
          have e1 := L1.out.frozen q
          have q1 : (0 : Int) ≤ m := by omega
          have q2 : (m : Int) < (r.length : Int) := by omega
          have q3 : (0 : Int) ≤ q := by omega
          have q4 : (q : Int) < (N : Int) := by omega
          obtain ⟨z0, z1, z2, z3⟩ := G1.out.cells
          have G4 := Lib.hid (G1.out.far (k := b5) (j := q) (x := .int .i64 f) (by omega))
          have F4 := Lib.hid (F1.out.setFarN (j := q) (x := .int .i64 f) L1.out (fun i hi k hk => by
            rw [List.length_take] at hi
            rw [atV_take (by omega)] at hk
            have := HRB.out i (by omega) k hk
            omega))
          have HL4 := Lib.hid (fill_store L1.out HST.out)
          have M4 := Lib.hid (M1.out.setFar (g := b5) (j := q) (by obtain ⟨cc, hc, _⟩ := L1.out; exact M1.out.far hc) (.int .i64 f))
          have R4 := Lib.hid (R1.out.setFarN (b := b5) (j := q) (x := .int .i64 f) (fun i hi k hk => by have := HRB.out i hi k hk; omega))
          have I4 := Lib.hid (I1.out.setFarN (b := b5) (j := q) (x := .int .i64 f) (fun k hk => by have := (I1.out.own k hk).1; omega))
          have K4 := Lib.hid (K1.out.far (k := b5) (j := q) (x := .int .i64 f) (by omega))
          have B4 := Lib.hid (B1.out.setCell (p := ⟨b5, q, none⟩) (show w.heap.size ≤ b5 by omega) (.int .i64 f))
          go_wp2_with fail
          exact ⟨⟨m + 1, by omega, by go_num, G4.out, F4.out, HL4.out, M4.out, R4.out, I4.out, K4.out, B4.out⟩, by simp [intOf]; omega⟩
        · obtain rfl : m = r.length := by omega
          go_wp2_with fail
          exact ⟨⟨f + 1, _, by omega, by go_num, G1.out, F1.out, L1.out.congr (fun d hd => by rw [HFN.out d]), M1.out, R1.out, I1.out, K1.out, B1.out⟩, by simp [intOf]; omega⟩
    · obtain rfl : f = F.length := by omega
      obtain ⟨z0, z1, z2, z3⟩ := G1.out.cells
      obtain ⟨y0, y1, y2, y3⟩ := K1.out.cells
      have f0 := K1.out.frozen 0
      have f1 := K1.out.frozen 1
      have f2 := K1.out.frozen 2
      have f3 := K1.out.frozen 3
      go_wp2_with fail
      have KE := K1.out.setAll (.slice A ns.length c) (.slice A2 ls.length c2) (.slice av nv cv) (.slice (some ⟨b5, 0, none⟩) N N)
      obtain ⟨r0, r1, r2, r3⟩ := KE.cells
      have FE := ((((F1.out.setFarG (j := 0) (x := .slice A ns.length c) K1.out).setFarG (j := 1) (x := .slice A2 ls.length c2) (K1.out.set0 _)).setFarG (j := 2) (x := .slice av nv cv) ((K1.out.set0 _).set1 _)).setFarG (j := 3) (x := .slice (some ⟨b5, 0, none⟩) N N) (((K1.out.set0 _).set1 _).set2 _))
      have LE := (((L1.out.setOther (a := ⟨w.heap.size + 1, 0, none⟩) (rowIs_farG L1.out K1.out) (.slice A ns.length c)).setOther (a := ⟨w.heap.size + 1, 1, none⟩) (rowIs_farG L1.out K1.out) (.slice A2 ls.length c2)).setOther (a := ⟨w.heap.size + 1, 2, none⟩) (rowIs_farG L1.out K1.out) (.slice av nv cv)).setOther (a := ⟨w.heap.size + 1, 3, none⟩) (rowIs_farG L1.out K1.out) (.slice (some ⟨b5, 0, none⟩) N N)
      refine bodyPost_ret (v := .tuple #[.agg #[.slice A ns.length c, .slice A2 ls.length c2, .slice av nv cv, .slice (some ⟨b5, 0, none⟩) N N], .bool true]) (by simp [results, Tryz.results74, go_sem, r0, r1, r2, r3]) rfl ⟨_, _, rfl, ⟨us, ?_⟩, ?_, below_set4 B1.out (Nat.le_succ _)⟩
      · rw [List.take_length, List.take_of_length_le (Nat.le_of_eq hus)] at FE
        exact FE
      · exact rowIs_ints LE (by omega) (by omega) (by rw [HAL.out, HNE.out]) HEND.out
end Go.Proofs.YtepacoacalhdcaaGreat
