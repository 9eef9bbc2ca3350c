/-
  Several texts in one: a claim has at most 60 files.
-/
import Derived.Test.YtmboilogcnmlnaaGreatG10
import Derived.Test.YtmboilogcnmlnaaGreatG4
import Derived.Test.YtmboilogcnmlnaaGreatMat
import Derived.Test.YtmboilogcnmlnaaGreatAppP
import Derived.Test.YtmboilogcnmlnaaGreatFcnt
import Derived.Test.YtmboilogcnmlnaaGreatG5
import Derived.Test.YtmboilogcnmlnaaGreatGrdJ
import Derived.Test.YtmboilogcnmlnaaGreatG8
import Derived.Test.YtmboilogcnmlnaaGreatG1

namespace Go.Proofs.YtmboilogcnmlnaaGreat
open Go.RowKit
set_option linter.unusedVariables false
set_option linter.unusedSimpArgs false

def sumQ (f : Nat → Int) : Nat → Int
  | 0 => 0
  | n + 1 => sumQ f n + f n

theorem sumQ_succ (f : Nat → Int) (n : Nat) : sumQ f (n + 1) = sumQ f n + f n := rfl

theorem sumQ_bd {f : Nat → Int} {b : Int} (h : ∀ c, 0 ≤ f c ∧ f c ≤ b) : ∀ n : Nat, 0 ≤ sumQ f n ∧ sumQ f n ≤ n * b
  | 0 => by simp [sumQ]
  | n + 1 => by
    obtain ⟨h1, h2⟩ := sumQ_bd h n
    obtain ⟨h3, h4⟩ := h n
    rw [sumQ_succ, show ((n + 1 : Nat) : Int) * b = n * b + b from by rw [Int.natCast_succ, Int.add_mul, Int.one_mul]]
    omega

/-- The ways to fill d more faces with the colors before n. -/
def cntQ (M : Nat → Nat → Bool) (n : Nat) : Nat → List Int → Int
  | 0, _ => 1
  | d + 1, xs => sumQ (fun c => if freC M xs xs.length c = true then cntQ M n d (xs ++ [(c : Int)]) else 0) n

theorem cntQ_bd (M : Nat → Nat → Bool) {n : Nat} (hn : n ≤ 4) : ∀ d xs, 0 ≤ cntQ M n d xs ∧ cntQ M n d xs ≤ ((4 ^ d : Nat) : Int)
  | 0, xs => by simp [cntQ]
  | d + 1, xs => by
    have h := sumQ_bd (f := fun c => if freC M xs xs.length c = true then cntQ M n d (xs ++ [(c : Int)]) else 0) (b := ((4 ^ d : Nat) : Int)) (fun c => by
      split
      · exact cntQ_bd M hn d _
      · exact ⟨Int.le_refl _, Int.natCast_nonneg _⟩) n
    unfold cntQ
    refine ⟨h.1, Int.le_trans h.2 ?_⟩
    rw [Nat.pow_succ, Nat.mul_comm, Int.natCast_mul]
    exact Int.mul_le_mul_of_nonneg_right (by omega) (Int.natCast_nonneg _)

theorem pow_13 {d : Nat} (h : d ≤ 13) : 4 ^ d ≤ 67108864 := Nat.le_trans (Nat.pow_le_pow_right (by decide) h) (by decide)

/-- Each part of the sum is small. -/
theorem cntQ_part (M : Nat → Nat → Bool) {n d : Nat} (hn : n ≤ 4) (hd : d ≤ 12) (xs : List Int) : ∀ q : Nat, q ≤ 4 → 0 ≤ sumQ (fun c => if freC M xs xs.length c = true then cntQ M n d (xs ++ [(c : Int)]) else 0) q ∧ sumQ (fun c => if freC M xs xs.length c = true then cntQ M n d (xs ++ [(c : Int)]) else 0) q ≤ 268435456 := fun q hq => by
  have hp := pow_13 (d := d) (by omega)
  have h := sumQ_bd (f := fun c => if freC M xs xs.length c = true then cntQ M n d (xs ++ [(c : Int)]) else 0) (b := 67108864) (fun c => by
    split
    · have := cntQ_bd M hn d (xs ++ [(c : Int)])
      omega
    · omega) q
  refine ⟨h.1, Int.le_trans h.2 ?_⟩
  omega

/-- No face before i that is beside k has the color c. -/
def freeK (M : Nat → Nat → Bool) (xs : List Int) (k c : Nat) (i : Nat) : Bool := (List.range i).all fun j => !(M k j && decide (atZ xs j = (c : Int)))

theorem freeK_succ (M : Nat → Nat → Bool) (xs : List Int) (k c i : Nat) : freeK M xs k c (i + 1) = (freeK M xs k c i && !(M k i && decide (atZ xs i = (c : Int)))) := by
  unfold freeK
  rw [List.range_succ, List.all_append]
  simp

section

variable {P : Program}

theorem run_append_seq {w : World} {B g : Nat} {t ty : TypeId} {i : TypeInfo} {v : Value} {xs : List Int} (ht : P.underlying t = some (.slice 3)) (hi : P.info? 3 = some i) (hz : i.zero = some (.int .i64 0))
    (hsize : i.size = 1) (hby : i.bytes = 8) (hg : w.heap[g]? = some (.cells #[] 3 (0, 0))) (hB : B ≤ g) (hv : Seq w v xs) (hlen : xs.length ≤ 1000000) :
    ∃ v' w', (Builtin.append_ #[t, t] ty #[.slice (some ⟨g, 0, none⟩) 0 0, v]).run P w = .ok v' w' ∧ Ints w' B v' xs ∧ Below w.heap.size w w' := by
  have hgl := lt_of_block hg
  have hown : Ints w B (.slice (some ⟨g, 0, none⟩) 0 0) [] := ⟨by simp, .inr ⟨g, 0, #[], rfl, hB, hg, Nat.le_refl _, Nat.zero_le _, rfl, rfl⟩⟩
  obtain ⟨A, c, rfl, hl, hc, hx⟩ := hv
  by_cases h0 : xs.length = 0
  · obtain rfl : xs = [] := List.eq_nil_of_length_eq_zero h0
    cases A with
    | none =>
      refine ⟨_, w, ?_, hown, Below.refl _ _⟩
      simp [Builtin.append_, run_underlying ht, sizeOf, typeInfo, hi, Builtin.lenOf, Builtin.firstCells, storeCells]
    | some a =>
      have hr := run_append_room (P := P) w t ty 3 i ht hi g 0 0 #[] hg a 0 c [] (by simp) (fun j u h => by simp at h) (fun u h => by simp at h) (Nat.le_refl _) (by simp)
      simp only [Nat.zero_mul, Nat.add_zero] at hr
      refine ⟨_, _, hr, ?_, ⟨rfl, rfl, rfl, by simp [World.setRow], fun k hk => ?_⟩⟩
      · exact ⟨by simp, .inr ⟨g, 0, _, rfl, hB, setRow_heap w g #[] _ 3 _ hg, Nat.le_refl _, Nat.zero_le _, rfl, by simp⟩⟩
      · by_cases hkg : k = g
        · subst hkg; rw [setRow_heap w k #[] _ 3 _ hg, hg]; rfl
        · exact setRow_other w g k _ hkg
  · obtain ⟨b, o, rfl, hbl, hcs⟩ := hx (by omega)
    have hn : ∀ j u, (xs.map fun x => Value.int .i64 x)[j]? = some u → w.cell? ((⟨b, o, none⟩ : Addr).add j) = some u := fun j u hj => by
      rcases Nat.lt_or_ge j xs.length with h | h
      · rw [List.getElem?_map, List.getElem?_eq_getElem h, Option.map_some, atZ_get h] at hj
        rw [← hj, ← hcs j h]
        congr 1
        unfold Addr.add; split <;> simp_all
      · rw [List.getElem?_eq_none (by simpa using h)] at hj
        cases hj
    have hr := run_append_grow (P := P) w t ty 3 i (.int .i64 0) ht hi hz ⟨g, 0, none⟩ 0 0 [] (by simp) (fun j u h => by simp at h) ⟨b, o, none⟩ xs.length c (xs.map fun x => .int .i64 x) (by rw [List.length_map, hsize, Nat.mul_one]) hn (by omega) (by omega)
      (by rw [Nat.zero_add, nextslicecap_zero (by omega), hby]; omega)
    refine ⟨_, _, hr, ?_, (Below.refl _ _).drew.alloc (by simp) _⟩
    have hge := grownCap_ge w (0 + xs.length) 0 3
    have hcm := grownCap_le_maxLen w (0 + xs.length) 0 3 (by unfold maxLen; omega)
    unfold Ints
    refine ⟨by simp, .inr ⟨w.heap.size, _, _, by rw [Nat.zero_add], by omega, heap_alloc_new w.drew _, ?_, ?_, ?_, ?_⟩⟩
    · simpa using hge
    · simpa using hcm
    · simp only [Array.size_append, List.size_toArray, size_zeroCells, List.length_nil, List.length_map, Nat.zero_add] at hge ⊢
      simp [Value.cells]
      omega
    · simp

end
end Go.Proofs.YtmboilogcnmlnaaGreat

namespace Go.Proofs.YtmboilogcnmlnaaGreat
open Go.RowKit
set_option linter.unusedVariables false
set_option linter.unusedSimpArgs false

set_option maxRecDepth 100000 in
theorem specCntZ (N n : Nat) (am : Option Addr) (cm : Nat) (xs : List Int) (vx : Value) (B : Nat) (w : World) (hlen : xs.length = N) (hx : Ints w B vx xs) :
    Calls Tryz.prog 70 #[.slice am N cm, .int .i64 n, vx] w (IntIs 1 w) := by
  obtain ⟨ax, cx, rfl, -⟩ := hx.form
  subst hlen
  clear hx
  go_enter Tryz.func70, Tryz.ntmps70
  go_wp2_with fail
  go_ret
  exact ⟨rfl, Below.refl _ _⟩

set_option maxRecDepth 100000 in
set_option maxHeartbeats 4000000 in
theorem specCntS (M : Nat → Nat → Bool) (hsym : ∀ i j, M i j = M j i) (N n : Nat) (hN : N ≤ 13) (hn : n ≤ 4) (am : Option Addr) (cm : Nat) (g : Nat → Nat) (d : Nat) (xs : List Int) (vx : Value) (B : Nat) (w : World) (hlen : xs.length + (d + 1) = N) (hm : MatG w 0 (.slice am N cm) g N N M) (hx : Ints w B vx xs)
    (HIH : Hid (∀ (c : Int) (vx : Value) (B : Nat) (w : World), (xs ++ [c]).length + d = N → MatG w 0 (.slice am N cm) g N N M → Ints w B vx (xs ++ [c]) → Calls Tryz.prog 70 #[.slice am N cm, .int .i64 n, vx] w (fun e w' => e = .returned (.int .i64 (cntQ M n d (xs ++ [c]))) ∧ Below w.heap.size w w'))) :
    Calls Tryz.prog 70 #[.slice am N cm, .int .i64 n, vx] w (IntIs (cntQ M n (d + 1) xs) w) := by
  have HM := Lib.hid hm; clear hm
  have HSYM := Lib.hid hsym; clear hsym
  have HX := Lib.hid hx
  obtain ⟨ax, cx, rfl, -⟩ := hx.form
  clear hx
  have HPT := Lib.hid (cntQ_part M hn (d := d) (by omega) xs)
  have HBD := Lib.hid (fun c : Nat => cntQ_bd M hn d (xs ++ [(c : Int)]))
  have hp := pow_13 (d := d) (by omega)
  have HBD := Lib.hid (fun c : Nat => (show 0 ≤ cntQ M n d (xs ++ [(c : Int)]) ∧ cntQ M n d (xs ++ [(c : Int)]) ≤ 67108864 from ⟨(HBD.out c).1, Int.le_trans (HBD.out c).2 (by omega)⟩))
  clear hp
  have hRES : cntQ M n (d + 1) xs = sumQ (fun c => if freC M xs xs.length c = true then cntQ M n d (xs ++ [(c : Int)]) else 0) n := rfl
  rw [hRES]; clear hRES
  have HSN := Lib.hid (sumQ_succ (fun c => if freC M xs xs.length c = true then cntQ M n d (xs ++ [(c : Int)]) else 0))
  have HS0 := Lib.hid (show sumQ (fun c => if freC M xs xs.length c = true then cntQ M n d (xs ++ [(c : Int)]) else 0) 0 = 0 from rfl)
  have HFR := Lib.hid (fun c => (show freC M xs xs.length c = freeK M xs xs.length c xs.length from rfl))
  generalize sumQ (fun c => if freC M xs xs.length c = true then cntQ M n d (xs ++ [(c : Int)]) else 0) = S at *
  generalize freC M xs xs.length = FC at *
  have HFS := Lib.hid (freeK_succ M xs)
  have HF0 := Lib.hid (fun k c => (show freeK M xs k c 0 = true from rfl))
  generalize freeK M xs = FK at *
  have HSEQ := Lib.hid HX.out.seq
  obtain ⟨k, hk⟩ : ∃ k, k = xs.length := ⟨_, rfl⟩
  have HK := Lib.hid hk
  have HLN := Lib.hid (show ∀ c : Int, (xs ++ [c]).length + d = N from fun c => by rw [List.length_append]; simp; omega)
  rw [← hk] at hlen HX HFR ⊢
  clear hk
  have hkN : k < N := by omega
  obtain ⟨gm, cm', hmv⟩ := HM.out.some_ (by omega)
  simp only [Value.slice.injEq] at hmv
  obtain ⟨rfl, -, rfl⟩ := hmv
  obtain ⟨i0, hi, hz0, hz1, hz2⟩ := info_parts infoInt
  have HI := Lib.hid (And.intro hi (And.intro hz0 (And.intro hz1 hz2))); clear hi hz0 hz1 hz2
  go_enter Tryz.func70, Tryz.ntmps70
  have hne : ((k : Int) == (N : Int)) = false := by rw [beq_eq_false_iff_ne]; omega
  go_wp2_with fail
  go_loopw [8, 9] (fun vt vc wr => ∃ q : Nat, q ≤ n ∧ vc = .int .i64 q ∧ vt = .int .i64 (S q) ∧ Below w.heap.size w wr) (fun _ vc _ => n - (intOf vc).toNat)
  case atStart => exact ⟨0, Nat.zero_le _, rfl, by rw [HS0.out], Below.refl _ _⟩
  case round =>
    obtain ⟨q, hq, rfl, rfl, hb⟩ := hrel
    have HB := Lib.hid hb; clear hb
    by_cases hlt : q < n
    · have q1 : (q : Int) < (n : Int) := by omega
      have q0 : (0 : Int) ≤ q := by omega
      have HSQ := Lib.hid (HSN.out q)
      have HFQ := Lib.hid (HFR.out q)
      have HP := Lib.hid (And.intro (HPT.out q (by omega)) (HPT.out (q + 1) (by omega)))
      have hp1 := HP.out.1.1
      have hp2 := HP.out.1.2
      generalize S q = sq at *
      go_wp2_with fail
      go_loopw [10, 11] (fun vo vi wq => ∃ i : Nat, i ≤ k ∧ vi = .int .i64 i ∧ vo = .bool (FK k q i) ∧ wq = wr) (fun _ vi _ => k - (intOf vi).toNat)
      case atStart => exact ⟨0, Nat.zero_le _, rfl, by rw [HF0.out], rfl⟩
      case round =>
        obtain ⟨i, hi, rfl, rfl, rfl⟩ := hrel
        by_cases hik : i < k
        · have HMW := Lib.hid (HM.out.step HB.out)
          have hin : i < N := by omega
          obtain ⟨z0, hgk⟩ := HMW.out.cellRow hin
          obtain ⟨z1, z2, z3⟩ := HMW.out.cell hin hkN
          rw [HSYM.out i k] at z1
          have HOI := Lib.hid (HX.out.step HB.out)
          obtain ⟨gu, cu2, hu⟩ := HOI.out.some_ (by rw [← HK.out]; omega)
          rw [← HK.out] at hu
          simp only [Value.slice.injEq] at hu
          obtain ⟨rfl, -, rfl⟩ := hu
          obtain ⟨y0, -, y1, -, -⟩ := HOI.out.at_ (j := i) (by rw [← HK.out]; exact hik)
          unfold rowVal at z0
          have HFI := Lib.hid (HFS.out k q i)
          have p3 : (0 : Int) ≤ i := by omega
          have p4 : (i : Int) < (k : Int) := by omega
          have p5 : (i : Int) < (N : Int) := by omega
          have p6 : (k : Int) < (N : Int) := by omega
          have p7 : (0 : Int) ≤ k := by omega
          generalize M k i = mk at *
          generalize atZ xs i = xi at *
          generalize FK k q i = fk at *
          cases fk
          · go_wp2_with fail
            exact ⟨⟨i + 1, by omega, by go_num, by rw [HFI.out]; rfl, by first | rfl | trivial⟩, by simp [intOf]; omega⟩
          · cases mk
            · go_wp2_with fail
              exact ⟨⟨i + 1, by omega, by go_num, by rw [HFI.out]; rfl, by first | rfl | trivial⟩, by simp [intOf]; omega⟩
            · by_cases hx : xi = (q : Int)
              · subst hx
                go_wp2_with fail
                exact ⟨⟨i + 1, by omega, by go_num, by rw [HFI.out]; simp, by first | rfl | trivial⟩, by simp [intOf]; omega⟩
              · have e1 : (xi == (q : Int)) = false := by rw [beq_eq_false_iff_ne]; exact hx
                have e2 : decide (xi = (q : Int)) = false := by simp [hx]
                go_wp2_with fail
                exact ⟨⟨i + 1, by omega, by go_num, by rw [HFI.out, e2]; rfl, by first | rfl | trivial⟩, by simp [intOf]; omega⟩
        · obtain rfl : i = k := by omega
          rw [HFQ.out] at HSQ
          generalize FK i q i = fk at *
          cases fk
          · go_wp2_with fail
            exact ⟨⟨q + 1, by omega, by go_num, by rw [HSQ.out]; simp, HB.out⟩, by simp [intOf]; omega⟩
          · obtain ⟨v', w', hr, ho, hbb⟩ := run_append_seq (P := Tryz.prog) (ty := 43) (B := wr.heap.size) Tryz.underlying43 HI.out.1 HI.out.2.1 HI.out.2.2.1 HI.out.2.2.2 (heap_alloc_new wr (.cells #[] 3)) (Nat.le_refl _) ((HSEQ.out.step HB.out).step (below_alloc wr (.cells #[] 3))) (by rw [← HK.out]; omega)
            rw [← HK.out] at hr
            have HO := Lib.hid ho
            have hs2 := hbb.size
            have HB2 := Lib.hid (HB.out.trans (((below_alloc wr (.cells #[] 3)).trans (hbb.mono (by simp))).mono HB.out.size))
            have hs3 := HB.out.size
            clear ho hbb
            have hxl : xs.length ≤ 13 := by rw [← HK.out]; omega
            obtain ⟨hi, hz0, hz1, hz2⟩ := HI.out
            have hwb : wr.heap.size ≤ w'.heap.size := by simp at hs2; omega
            go_wp2_with (at_builtin; first | (refine wpList_append_run rfl _ _ 43 rfl v' w' hr ?_) | refine wpList_append_own _ rfl _ _ 43 rfl wr.heap.size 3 i0 (.int .i64 0) 1 8 Tryz.underlying43 hi hz0 hz1 hz2 rfl (by decide) _ _ _ rfl (World.ownsRow.alloc HO.out _) ⟨_, 0, none⟩ 1 1 [.int .i64 q] rfl rfl ?c1 ?c2 ?c3 ?c4 ?c5 ?_)
            try (case c1 => exact cell_one_new _ _ _)
            case c2 => simp [Value.oneCell']
            case c3 => unfold maxLen; omega
            case c4 => omega
            case c5 => first | omega | (simp <;> omega)
            intro v'' w5 hown hgrow _
            have HB5 := Lib.hid (HB2.out.trans ((grown_below HO.out hwb hgrow).mono hs3))
            have HO5 := Lib.hid (Ints.more hown)
            clear hown hgrow hr hi hz0 hz1 hz2 hs2
            go_wp2_with fail
            refine (HIH.out q v'' _ _ (HLN.out _) (HM.out.step HB5.out) HO5.out).mono ?_
            rintro e w6 ⟨rfl, hb6⟩
            have HB6 := Lib.hid (HB5.out.trans (hb6.mono HB5.out.size))
            obtain ⟨b1, b2⟩ := HBD.out q
            clear hb6
            rw [if_pos trivial] at HSQ
            generalize cntQ M n d (xs ++ [(q : Int)]) = z at *
            have hwz : IntKind.i64.wrap (sq + z) = sq + z := IntWalk.i64_in _ (by omega)
            go_wp2_with fail
            exact ⟨⟨q + 1, by omega, by go_num, by rw [HSQ.out], HB6.out⟩, by simp [intOf]; omega⟩
    · obtain rfl : q = n := by omega
      go_wp2_with fail
      go_ret
      exact ⟨rfl, HB.out⟩

theorem specCntA (M : Nat → Nat → Bool) (hsym : ∀ i j, M i j = M j i) (N n : Nat) (hN : N ≤ 13) (hn : n ≤ 4) (am : Option Addr) (cm : Nat) (g : Nat → Nat) (d : Nat) : ∀ (xs : List Int) (vx : Value) (B : Nat) (w : World), xs.length + d = N → MatG w 0 (.slice am N cm) g N N M → Ints w B vx xs →
    Calls Tryz.prog 70 #[.slice am N cm, .int .i64 n, vx] w (IntIs (cntQ M n d xs) w) := by
  induction d with
  | zero => exact fun xs vx B w hl hm hx => specCntZ N n am cm xs vx B w (by omega) hx
  | succ d ih => exact fun xs vx B w hl hm hx => specCntS M hsym N n hN hn am cm g d xs vx B w hl hm hx (Lib.hid fun c vx B w h1 h2 h3 => ih (xs ++ [c]) vx B w h1 h2 h3)
end Go.Proofs.YtmboilogcnmlnaaGreat

namespace Go.Proofs.YtmboilogcnmlnaaGreat
open Go.RowKit
set_option linter.unusedVariables false
set_option linter.unusedSimpArgs false

/-- The ways to color all faces with a colors; -1 where it may not be asked. -/
noncomputable def ccW (ns ls : List Nd) (a : Int) : Int := if wholeB ns ls = true ∧ inB a 1 4 = true then cntQ (besM (atW ns ls) ls.length) a.toNat (wF ns ls).length [] else -1

set_option maxRecDepth 100000 in
set_option maxHeartbeats 4000000 in
theorem specCount (ns ls : List Nd) (vn vl : Value) (a : Int) (w : World) (hn : Prs w vn ns) (hl : Prs w vl ls) :
    Calls Tryz.prog 36 #[.agg #[vn, vl], .int .i64 a] w (IntIs (ccW ns ls a) w) := by
  have HW := Lib.hid (fun w h1 h2 => specWhole ns ls vn vl w h1 h2)
  have HM := Lib.hid (fun w h1 h2 (hh : wholeB ns ls = true) => specMat ns ls vn vl w h1 h2 hh)
  unfold MatNew at HM
  have HI := Lib.hid (fun w => specIn a 1 4 w)
  have HA := Lib.hid (fun (n : Nat) (hn : n ≤ 4) am cm g vx B w h1 h2 => specCntA (besM (atW ns ls) ls.length) (besM_sym (atW ns ls) ls.length) (wF ns ls).length n (wF_thirteen ns ls) hn am cm g (wF ns ls).length [] vx B w (by simp) h1 h2)
  have HN := Lib.hid hn
  have HL := Lib.hid hl
  have H0 := Lib.hid (held_pair w vn vl 31)
  obtain ⟨A, c, rfl⟩ := prs_form2 hn
  obtain ⟨A2, c2, rfl⟩ := prs_form2 hl
  clear hn hl
  have HY := Lib.hid (show ∀ n : Nat, a = n → wholeB ns ls = true → inB a 1 4 = true → ccW ns ls a = cntQ (besM (atW ns ls) ls.length) n (wF ns ls).length [] from fun n hn h1 h2 => by unfold ccW; rw [if_pos ⟨h1, h2⟩, hn]; rfl)
  have HNO1 := Lib.hid (show wholeB ns ls = false → ccW ns ls a = -1 from fun h => if_neg (by rw [h]; simp))
  have HNO2 := Lib.hid (show inB a 1 4 = false → ccW ns ls a = -1 from fun h => if_neg (by rw [h]; simp))
  have HIN := Lib.hid (show inB a 1 4 = true → ∃ n : Nat, a = n ∧ n ≤ 4 from fun h => by have := (inB_iff _ _ _).1 h; exact ⟨a.toNat, by omega, by omega⟩)
  generalize ccW ns ls a = R at *
  generalize wholeB ns ls = ok at *
  generalize inB a 1 4 = ok2 at *
  generalize besM (atW ns ls) ls.length = M at *
  generalize (wF ns ls).length = N at *
  go_enter Tryz.func36, Tryz.ntmps36
  obtain ⟨x0, x1, _⟩ := H0.out.1
  go_wp2_with fail
  refine (HW.out _ (HN.out.step H0.out.below) (HL.out.step H0.out.below)).mono ?_
  rintro e w1 ⟨rfl, hb⟩
  have H1 := Lib.hid (H0.out.step hb)
  clear hb x0 x1
  obtain ⟨x0, x1, _⟩ := H1.out.1
  cases ok
  · go_wp2_with fail
    go_ret
    exact ⟨by rw [HNO1.out (by first | rfl | trivial)]; rfl, H1.out.below⟩
  · go_wp2_with fail
    refine (HI.out _).mono ?_
    rintro e w2 ⟨rfl, rfl⟩
    cases ok2
    · go_wp2_with fail
      go_ret
      exact ⟨by rw [HNO2.out (by first | rfl | trivial)]; rfl, H1.out.below⟩
    · obtain ⟨n, rfl, hn4⟩ := HIN.out (by first | rfl | trivial)
      go_wp2_with fail
      refine (HM.out _ (HN.out.step H1.out.below) (HL.out.step H1.out.below) (by first | rfl | trivial)).mono ?_
      rintro e w3 ⟨v, g, rfl, hm, hb⟩
      have H3 := Lib.hid (H1.out.step hb)
      have HM3 := Lib.hid ((hm.mono (b' := 0) (Nat.zero_le _)).step (below_alloc w3 (.cells #[] 3)))
      obtain ⟨am, cm, rfl, -⟩ := hm.form
      have HX3 := Lib.hid (Ints.made w3 w3.heap.size w3.heap.size rfl (Nat.le_refl _))
      have H4 := Lib.hid (H3.out.alloc (.cells #[] 3))
      clear hm hb x0 x1
      go_wp2_with fail
      refine (HA.out n hn4 am cm g _ _ _ HM3.out HX3.out).mono ?_
      rintro e w4 ⟨rfl, hb⟩
      have H5 := Lib.hid (H4.out.step hb)
      clear hb
      go_wp2_with fail
      go_ret
      exact ⟨by rw [HY.out n rfl (by first | rfl | trivial) (by first | rfl | trivial)]; rfl, H5.out.below⟩
end Go.Proofs.YtmboilogcnmlnaaGreat

namespace Go.Proofs.YtmboilogcnmlnaaGreat
open Go.RowKit
set_option linter.unusedVariables false
set_option linter.unusedSimpArgs false

/-- xs, and the open faces behind it. -/
def opnL (xs : List Int) (N : Nat) : List Int := xs ++ List.replicate (N - xs.length) (-1)

theorem opnL_len {xs : List Int} {N : Nat} (h : xs.length ≤ N) : (opnL xs N).length = N := by
  unfold opnL
  rw [List.length_append, List.length_replicate]
  omega

theorem opnL_lo {xs : List Int} {N i : Nat} (h : i < xs.length) : atZ (opnL xs N) i = atZ xs i := by
  unfold opnL atZ
  simp [List.getD, List.getElem?_append, h]

theorem opnL_hi {xs : List Int} {N i : Nat} (h : xs.length ≤ i) (h2 : i < N) : atZ (opnL xs N) i = -1 := by
  unfold opnL atZ
  simp [List.getD, List.getElem?_append, show ¬ i < xs.length by omega, List.getElem?_replicate, show i - xs.length < N - xs.length by omega]

theorem opnL_next {xs : List Int} {N : Nat} (h : xs.length < N) (q : Int) : (opnL xs N).set xs.length q = opnL (xs ++ [q]) N := by
  unfold opnL
  obtain ⟨m, hm⟩ : ∃ m, N - xs.length = m + 1 := ⟨N - xs.length - 1, by omega⟩
  rw [hm, List.set_append, if_neg (by omega), Nat.sub_self, List.replicate_succ, List.length_append, List.length_singleton, show N - (xs.length + 1) = m from by omega]
  simp

theorem opnL_same {xs : List Int} {N : Nat} (h : xs.length < N) : (opnL xs N).set xs.length (-1) = opnL xs N := by
  unfold opnL
  obtain ⟨m, hm⟩ : ∃ m, N - xs.length = m + 1 := ⟨N - xs.length - 1, by omega⟩
  rw [hm, List.set_append, if_neg (by omega), Nat.sub_self, List.replicate_succ]
  simp

theorem plc_opn {xs : List Int} {N : Nat} (h : xs.length < N) (hp : ∀ i, i < xs.length → 0 ≤ atZ xs i) : plc (opnL xs N) (-1) = (xs.length : Int) :=
  plc_hit (by rw [opnL_len (by omega)]; exact h) (opnL_hi (Nat.le_refl _) h) fun j hj => by rw [opnL_lo hj]; have := hp j hj; omega

theorem plc_full {xs : List Int} {N : Nat} (h : xs.length = N) (hp : ∀ i, i < xs.length → 0 ≤ atZ xs i) : plc (opnL xs N) (-1) = -1 :=
  plc_miss fun j hj => by rw [opnL_len (by omega)] at hj; rw [opnL_lo (by omega)]; have := hp j (by omega); omega

theorem freeJ_opn (M : Nat → Nat → Bool) {xs : List Int} {N : Nat} (hk : xs.length < N) (c : Nat) : freeJ (rowM M N xs.length) (opnL xs N) c = freC M xs xs.length c := by
  rw [Bool.eq_iff_iff, freC_iff]
  constructor
  · intro h i hi hm
    unfold freeJ at h
    rw [List.all_eq_true] at h
    have := h (i : Int) (by unfold rowM; rw [fltN_mem]; exact ⟨i, rfl, by omega, hm⟩)
    rw [← opnL_lo (N := N) hi]
    simpa using this
  · intro h
    refine freeJ_none fun j hj => ?_
    have hmem : atZ (rowM M N xs.length) j ∈ rowM M N xs.length := by rw [← atZ_get hj]; exact List.getElem_mem hj
    obtain ⟨i, hi, hin, hm⟩ := (fltN_mem (fun h => M xs.length h) N _).1 hmem
    rw [hi]
    show atZ (opnL xs N) i ≠ _
    rcases Nat.lt_or_ge i xs.length with h1 | h1
    · rw [opnL_lo h1]; exact h i h1 hm
    · rw [opnL_hi h1 hin]; omega

theorem chL_opn (M : Nat → Nat → Bool) {xs : List Int} {N : Nat} (hk : xs.length < N) (n : Nat) : chL (rowM M N xs.length) (opnL xs N) n = fltN (freC M xs xs.length) n := fltN_congr n fun c _ => freeJ_opn M hk c

theorem sumQ_congr {f g : Nat → Int} : ∀ n, (∀ i, i < n → f i = g i) → sumQ f n = sumQ g n
  | 0, _ => rfl
  | n + 1, h => by rw [sumQ_succ, sumQ_succ, sumQ_congr n fun i hi => h i (by omega), h n (by omega)]

/-- The sum over the first j of a list. -/
def sumL (f : Int → Int) (L : List Int) (j : Nat) : Int := sumQ (fun i => f (atZ L i)) j

theorem sumL_flt (f : Int → Int) (p : Nat → Bool) : ∀ n, sumL f (fltN p n) (fltN p n).length = sumQ (fun c : Nat => if p c = true then f (c : Int) else 0) n
  | 0 => rfl
  | n + 1 => by
    rw [sumQ_succ, ← sumL_flt f p n, fltN_succ]
    by_cases h : p n = true
    · rw [if_pos h, if_pos h, List.length_append, List.length_singleton]
      unfold sumL
      rw [sumQ_succ]
      congr 1
      · exact sumQ_congr _ fun i hi => by rw [atZ_more hi]
      · unfold atZ
        simp [List.getD]
    · rw [if_neg h, if_neg h, Int.add_zero]

theorem Turn.set {g k : Nat} (W : World) (x : Value) : Turn g (g + 1) W (W.setCell ⟨g, k, none⟩ x) :=
  ⟨rfl, rfl, rfl, by rw [heap_setCell_size]; exact Nat.le_refl _, fun i hi h => Below.heap_setCell _ _ _ _ (by show i ≠ g; omega)⟩

set_option maxRecDepth 100000 in
theorem implCntZ (N n : Nat) (hN : N ≤ 13) (ac : Option Addr) (cc : Nat) (vb : Value) (Z : Nat) (xs : List Int) (w : World) (hlen : xs.length = N) (hpos : ∀ i, i < xs.length → 0 ≤ atZ xs i) (hc : Ints w Z (.slice ac N cc) (opnL xs N)) :
    Calls Tryz.prog 71 #[.agg #[vb, .slice ac N cc, .int .i64 n]] w (IntIs 1 w) := by
  have HIX := Lib.hid (fun w h => idxSeq (opnL xs N) (.slice ac N cc) (-1) w h)
  rw [plc_full hlen hpos] at HIX
  have HC := Lib.hid hc.seq
  have H0 := Lib.hid (heldC w vb (.slice ac N cc) (.int .i64 n) 88)
  clear hc
  go_enter Tryz.func71, Tryz.ntmps71
  obtain ⟨x0, x1, x2, _⟩ := H0.out.1
  go_wp2_with fail
  refine (HIX.out _ (HC.out.step H0.out.below)).mono ?_
  rintro e w1 ⟨rfl, hb⟩
  have H1 := Lib.hid (H0.out.step hb)
  clear hb
  go_wp2_with fail
  go_ret
  exact ⟨rfl, H1.out.below⟩

set_option maxRecDepth 100000 in
set_option maxHeartbeats 4000000 in
theorem implCntS (M : Nat → Nat → Bool) (N n : Nat) (hN : N ≤ 13) (hn : n ≤ 4) (ab : Option Addr) (gc cb cc Z : Nat) (us : List Value) (GR : List (List Int)) (hGN : GR.length = N) (hAT : ∀ k, k < N → atR GR k = rowM M N k) (d : Nat) (xs : List Int) (w : World) (hlen : xs.length + (d + 1) = N) (hpos : ∀ i, i < xs.length → 0 ≤ atZ xs i)
    (hc : Cls w Z (.slice ab N cb) (.slice (some ⟨gc, 0, none⟩) N cc) us GR (opnL xs N))
    (HIH : Hid (∀ (q : Nat) (w : World), Cls w Z (.slice ab N cb) (.slice (some ⟨gc, 0, none⟩) N cc) us GR (opnL (xs ++ [(q : Int)]) N) → Calls Tryz.prog 71 #[.agg #[.slice ab N cb, .slice (some ⟨gc, 0, none⟩) N cc, .int .i64 n]] w (fun e w' => e = .returned (.int .i64 (cntQ M n d (xs ++ [(q : Int)]))) ∧ Cls w' Z (.slice ab N cb) (.slice (some ⟨gc, 0, none⟩) N cc) us GR (opnL (xs ++ [(q : Int)]) N) ∧ Turn gc (gc + 1) w w'))) :
    Calls Tryz.prog 71 #[.agg #[.slice ab N cb, .slice (some ⟨gc, 0, none⟩) N cc, .int .i64 n]] w (fun e w' => e = .returned (.int .i64 (cntQ M n (d + 1) xs)) ∧ Cls w' Z (.slice ab N cb) (.slice (some ⟨gc, 0, none⟩) N cc) us GR (opnL xs N) ∧ Turn gc (gc + 1) w w') := by
  have hk : xs.length < N := by omega
  have HIX := Lib.hid (fun w h => idxSeq (opnL xs N) (.slice (some ⟨gc, 0, none⟩) N cc) (-1) w h)
  rw [plc_opn hk hpos] at HIX
  have HC := Lib.hid hc; clear hc
  have HCH := Lib.hid (fun w h1 h2 => implChoices (.slice ab N cb) (.slice (some ⟨gc, 0, none⟩) N cc) us GR (opnL xs N) n xs.length Z Z w h1 h2 (by rw [hGN]; exact hk) (fun j hj => by rw [hAT _ hk] at hj ⊢; rw [opnL_len (Nat.le_of_lt hk)]; exact rowM_lt hj) (by omega) (by rw [hAT _ hk]; have := fltN_len (fun h => M xs.length h) N; unfold rowM; omega) (by rw [opnL_len (Nat.le_of_lt hk)]; omega) (by omega))
  rw [hAT _ hk, chL_opn M hk n] at HCH
  unfold IntsNew at HCH
  have hp := pow_13 (d := d) (by omega)
  have HBD := Lib.hid (fun x : Int => (show 0 ≤ cntQ M n d (xs ++ [x]) ∧ cntQ M n d (xs ++ [x]) ≤ 67108864 from ⟨(cntQ_bd M hn d _).1, Int.le_trans (cntQ_bd M hn d _).2 (by omega)⟩))
  clear hp
  have hR : cntQ M n (d + 1) xs = sumL (fun x => cntQ M n d (xs ++ [x])) (fltN (freC M xs xs.length) n) (fltN (freC M xs xs.length) n).length := (sumL_flt (fun x => cntQ M n d (xs ++ [x])) (freC M xs xs.length) n).symm
  rw [hR]; clear hR
  have HLN := Lib.hid (show (fltN (freC M xs xs.length) n).length ≤ 4 from Nat.le_trans (fltN_len _ _) hn)
  have HLQ := Lib.hid (fun j (hj : j < (fltN (freC M xs xs.length) n).length) => (show ∃ q : Nat, atZ (fltN (freC M xs xs.length) n) j = q from by
    obtain ⟨q, hq, _⟩ := (fltN_mem (freC M xs xs.length) n _).1 (show atZ (fltN (freC M xs xs.length) n) j ∈ fltN (freC M xs xs.length) n from by rw [← atZ_get hj]; exact List.getElem_mem hj)
    exact ⟨q, hq⟩))
  generalize fltN (freC M xs xs.length) n = L at *
  have HS0 := Lib.hid (show sumL (fun x => cntQ M n d (xs ++ [x])) L 0 = 0 from rfl)
  have HSN := Lib.hid (fun j => (show sumL (fun x => cntQ M n d (xs ++ [x])) L (j + 1) = sumL (fun x => cntQ M n d (xs ++ [x])) L j + cntQ M n d (xs ++ [atZ L j]) from rfl))
  have HSB := Lib.hid (fun j : Nat => (sumQ_bd (f := fun i => cntQ M n d (xs ++ [atZ L i])) (b := 67108864) (fun i => HBD.out _) j))
  have HSB := Lib.hid (fun j : Nat => (show 0 ≤ sumL (fun x => cntQ M n d (xs ++ [x])) L j ∧ sumL (fun x => cntQ M n d (xs ++ [x])) L j ≤ j * 67108864 from HSB.out j))
  generalize sumL (fun x => cntQ M n d (xs ++ [x])) L = S at *
  have HOL := Lib.hid (opnL_len (Nat.le_of_lt hk))
  have HON := Lib.hid (fun q => opnL_next hk q)
  have HOS := Lib.hid (opnL_same hk)
  obtain ⟨k, hkk⟩ : ∃ k, k = xs.length := ⟨_, rfl⟩
  rw [← hkk] at HCH HIX HON HOS hk
  clear hkk hlen hpos
  have H0 := Lib.hid (heldC w (.slice ab N cb) (.slice (some ⟨gc, 0, none⟩) N cc) (.int .i64 n) 88)
  have hgc := (HC.out.cols.own gc rfl).2
  go_enter Tryz.func71, Tryz.ntmps71
  obtain ⟨x0, x1, x2, _⟩ := H0.out.1
  have k0 : (0 : Int) ≤ k := by omega
  go_wp2_with fail
  refine (HIX.out _ (HC.out.cols.step H0.out.below).seq).mono ?_
  rintro e w1 ⟨rfl, hb⟩
  have H1 := Lib.hid (H0.out.step hb)
  clear hb x0 x1 x2
  obtain ⟨x0, x1, x2, _⟩ := H1.out.1
  go_wp2_with fail
  refine (HCH.out _ (HC.out.rows.step H1.out.below) (HC.out.cols.step H1.out.below)).mono ?_
  rintro e w2 ⟨vL, rfl, hL, hb⟩
  have H2 := Lib.hid (H1.out.step hb)
  have hw1 := H1.out.2.1.1
  obtain ⟨aL, cL, rfl, -⟩ := hL.form
  have HL := Lib.hid (hL.mono (b' := gc + 1) (by omega))
  have HC2 := Lib.hid (HC.out.step H2.out.below)
  have hs2 := H2.out.2.1.1
  clear hb hL x0 x1 x2 H0 H1 hw1
  have k1 : (k : Int) < (N : Int) := by omega
  have hne1 : gc ≠ w.heap.size := by omega
  have hne2 : w.heap.size ≠ gc := by omega
  go_wp2_with fail
  go_loopw [4, 16] (fun vt vi wr => ∃ (j : Nat) (y : Int), j ≤ L.length ∧ vi = .int .i64 j ∧ vt = .int .i64 (S j) ∧ Cls wr Z (.slice ab N cb) (.slice (some ⟨gc, 0, none⟩) N cc) us GR ((opnL xs N).set k y) ∧ Ints wr (gc + 1) (.slice aL L.length cL) L ∧ Cs wr [(w.heap.size, 0, .slice ab N cb), (w.heap.size, 1, .slice (some ⟨gc, 0, none⟩) N cc), (w.heap.size, 2, .int .i64 n)] ∧ w.heap.size < wr.heap.size ∧ Turn gc (gc + 1) w wr) (fun _ vi _ => L.length - (intOf vi).toNat)
  case atStart => exact ⟨0, -1, Nat.zero_le _, rfl, by rw [HS0.out], by rw [HOS.out]; exact HC2.out, HL.out, H2.out.1, hs2, Turn.of_below H2.out.below⟩
  case round =>
    clear HC2 HL H2 hs2
    obtain ⟨j, y, hj, rfl, rfl, hcl, hil, hcs, hsz, htt⟩ := hrel
    have HC2 := Lib.hid hcl; clear hcl
    have HL := Lib.hid hil; clear hil
    have HCS := Lib.hid hcs; clear hcs
    have HT := Lib.hid htt; clear htt
    obtain ⟨x0, x1, x2, -⟩ := HCS.out
    have hll := HLN.out
    obtain ⟨t0, t1, t2, -, -⟩ := (show Ints wr Z (.slice (some ⟨gc, 0, none⟩) N cc) ((opnL xs N).set k y) from HC2.out.cols).at_ (j := k) (by rw [List.length_set, HOL.out]; exact hk)
    by_cases hlt : j < L.length
    · have q1 : (0 : Int) ≤ j := by omega
      have q2 : (j : Int) < (L.length : Int) := by omega
      obtain ⟨q, hq⟩ := HLQ.out j hlt
      obtain ⟨gl, cl2, hvl⟩ := HL.out.some_ (by omega)
      simp only [Value.slice.injEq] at hvl
      obtain ⟨rfl, -, rfl⟩ := hvl
      have HLI := Lib.hid HL.out
      obtain ⟨z0, -, z1, -, -⟩ := HLI.out.at_ hlt
      rw [hq] at z0
      have HSJ := Lib.hid (HSN.out j)
      rw [hq] at HSJ
      clear hq
      have HC5 := Lib.hid (HC2.out.setC (k := k) (by rw [List.length_set, HOL.out]) (q : Int))
      rw [List.set_set, HON.out] at HC5
      have hb1 := HSB.out j
      have hb2 := HBD.out (q : Int)
      have HCA := Lib.hid (HIH.out q _ HC5.out)
      have HTS := Lib.hid (Turn.set (g := gc) (k := k) wr (.int .i64 q))
      clear HC5
      generalize cntQ M n d (xs ++ [(q : Int)]) = z at *
      generalize S j = sj at *
      have hwz : IntKind.i64.wrap (sj + z) = sj + z := IntWalk.i64_in _ (by omega)
      go_wp2_with fail
      refine HCA.out.mono ?_
      rintro e w6 ⟨rfl, hc6, ht6⟩
      have HT6 := Lib.hid (HTS.out.trans ht6)
      have HC6 := Lib.hid hc6
      clear hc6 ht6
      go_wp2_with fail
      exact ⟨⟨j + 1, q, by omega, by go_num, by rw [HSJ.out], by rw [HON.out]; exact HC6.out, HL.out.turn HT6.out (fun b e => .inr (HL.out.own b e).1), HCS.out.turn HT6.out ⟨.inr (by omega), .inr (by omega), .inr (by omega), trivial⟩ ⟨hsz, hsz, hsz, trivial⟩, Nat.lt_of_lt_of_le hsz HT6.out.size, HT.out.trans HT6.out⟩, by simp [intOf]; omega⟩
    · obtain rfl : j = L.length := by omega
      have HC5 := Lib.hid (HC2.out.setC (k := k) (by rw [List.length_set, HOL.out]) (-1))
      rw [List.set_set, HOS.out] at HC5
      have HTS := Lib.hid (Turn.set (g := gc) (k := k) wr (.int .i64 (-1)))
      go_wp2_with fail
      go_ret
      exact ⟨rfl, HC5.out, HT.out.trans HTS.out⟩

theorem implCntA (M : Nat → Nat → Bool) (N n : Nat) (hN : N ≤ 13) (hn : n ≤ 4) (ab : Option Addr) (gc cb cc Z : Nat) (us : List Value) (GR : List (List Int)) (hGN : GR.length = N) (hAT : ∀ k, k < N → atR GR k = rowM M N k) (d : Nat) : ∀ (xs : List Int) (w : World), xs.length + d = N → (∀ i, i < xs.length → 0 ≤ atZ xs i) → Cls w Z (.slice ab N cb) (.slice (some ⟨gc, 0, none⟩) N cc) us GR (opnL xs N) →
    Calls Tryz.prog 71 #[.agg #[.slice ab N cb, .slice (some ⟨gc, 0, none⟩) N cc, .int .i64 n]] w (fun e w' => e = .returned (.int .i64 (cntQ M n d xs)) ∧ Cls w' Z (.slice ab N cb) (.slice (some ⟨gc, 0, none⟩) N cc) us GR (opnL xs N) ∧ Turn gc (gc + 1) w w') := by
  induction d with
  | zero => exact fun xs w hl hp hc => (implCntZ N n hN _ cc _ Z xs w (by omega) hp hc.cols).mono fun e w' h => ⟨h.1, hc.step h.2, Turn.of_below h.2⟩
  | succ d ih => exact fun xs w hl hp hc => implCntS M N n hN hn ab gc cb cc Z us GR hGN hAT d xs w hl hp hc (Lib.hid fun q w h => ih (xs ++ [(q : Int)]) w (by rw [List.length_append]; simp; omega) (fun i hi => by
      by_cases e : i < xs.length
      · rw [atZ_more e]; exact hp i e
      · have e2 : i = xs.length := by simp at hi; omega
        subst e2
        unfold atZ
        simp [List.getD]) h)
end Go.Proofs.YtmboilogcnmlnaaGreat

namespace Go.Proofs.YtmboilogcnmlnaaGreat
open Go.RowKit
set_option linter.unusedVariables false
set_option linter.unusedSimpArgs false

theorem ccW_yes {ns ls : List Nd} {a : Int} (n : Nat) (ha : a = n) (h1 : wholeB ns ls = true) (h2 : inB a 1 4 = true) : ccW ns ls a = cntQ (besM (gA ns ls) (gL ns ls).length) n (wF ns ls).length [] := by
  unfold ccW gA gL
  rw [if_pos ⟨h1, h2⟩, if_pos h1, if_pos h1, ha]
  rfl

theorem count_any (M : Nat → Nat → Bool) (N n : Nat) (hN : N ≤ 13) (hn : n ≤ 4) (vb vc : Value) (Z B : Nat) (us : List Value) (hB : B ≤ Z) (w : World) (hBw : B ≤ w.heap.size) (hc : Cls w Z vb vc us (gath (rowM M N) N) (List.replicate N (-1))) :
    Calls Tryz.prog 71 #[.agg #[vb, vc, .int .i64 n]] w (fun e w' => e = .returned (.int .i64 (cntQ M n N [])) ∧ Below B w w') := by
  have hl : (gath (rowM M N) N).length = N := gath_len _ _
  have hr : (List.replicate N (-1 : Int)).length = N := List.length_replicate
  obtain ⟨ab, cb, rfl, -⟩ := hc.rows.form
  rw [hl] at hc ⊢
  by_cases h0 : N = 0
  · subst h0
    obtain ⟨ac, cc, rfl, -⟩ := hc.cols.form
    rw [hr] at hc ⊢
    exact (implCntZ 0 n (by omega) ac cc _ Z [] w rfl (fun i hi => by simp at hi) hc.cols).mono fun e w' h => ⟨h.1, h.2.mono hBw⟩
  · obtain ⟨gc, cc, rfl⟩ := hc.cols.some_ (by rw [hr]; omega)
    rw [hr] at hc ⊢
    have hg := (hc.cols.own gc rfl).1
    exact (implCntA M N n hN hn ab gc cb cc Z us _ hl (fun k hk => gath_at _ hk) N [] w (by simp) (fun i hi => by simp at hi) hc).mono fun e w' h => ⟨h.1, h.2.2.os, h.2.2.tape, h.2.2.output, h.2.2.size, fun k hk => h.2.2.block k (by omega) (.inl (by omega))⟩

set_option maxRecDepth 100000 in
set_option maxHeartbeats 4000000 in
theorem implCount (ns ls : List Nd) (vn vl : Value) (a : Int) (w : World) (hn : Prs w vn ns) (hl : Prs w vl ls) :
    Calls Tryz.prog 37 #[.agg #[vn, vl], .int .i64 a] w (IntIs (ccW ns ls a) w) := by
  have HBK := Lib.hid (fun v1 v2 v3 v4 B B2 w h1 h2 h3 h4 => implBlank v1 v2 v3 v4 (wF ns ls) (gA ns ls) (gN ns ls) (gL ns ls) B B2 a w h1 h2 h3 h4 (g_len ns ls).1 (g_len ns ls).2 wF_len)
  unfold BlankRet at HBK
  rw [besR] at HBK
  have h13 := wF_thirteen ns ls
  have HY := Lib.hid (fun (n : Nat) h1 h2 h3 => ccW_yes (ns := ns) (ls := ls) (a := a) n h1 h2 h3)
  have HNO1 := Lib.hid (show wholeB ns ls = false → ccW ns ls a = -1 from fun h => if_neg (by rw [h]; simp))
  have HNO2 := Lib.hid (show inB a 1 4 = false → ccW ns ls a = -1 from fun h => if_neg (by rw [h]; simp))
  generalize besM (gA ns ls) (gL ns ls).length = M at *
  generalize ccW ns ls a = R at *
  have HN := Lib.hid hn
  have HL := Lib.hid hl
  have HGL := Lib.hid (fun w h1 h2 => implGlass ns ls vn vl w h1 h2)
  unfold GlassNew at HGL
  have H0 := Lib.hid (held_pair w vn vl 31)
  obtain ⟨A, c, rfl⟩ := prs_form2 hn
  obtain ⟨A2, c2, rfl⟩ := prs_form2 hl
  clear hn hl
  generalize gN ns ls = ns' at *
  generalize gL ns ls = ls' at *
  generalize gA ns ls = ds at *
  generalize wF ns ls = rs at *
  generalize wholeB ns ls = ok at *
  have HIN := Lib.hid (inB_iff a 1 4)
  generalize inB a 1 4 = ok2 at *
  go_enter Tryz.func37, Tryz.ntmps37
  obtain ⟨x0, x1, _⟩ := H0.out.1
  go_wp2_with fail
  refine (HGL.out _ (HN.out.step H0.out.below) (HL.out.step H0.out.below)).mono ?_
  rintro e w1 ⟨v1, v2, v3, v4, rfl, g1, g2, g3, g4, hb⟩
  have H1 := Lib.hid (H0.out.step hb)
  have G0 := Lib.hid (heldG w1 v1 v2 v3 v4 66)
  have B1 := Lib.hid (H1.out.below.trans (G0.out.below.mono H1.out.below.size))
  have G1 := Lib.hid (g1.step G0.out.below)
  have G2 := Lib.hid (g2.step G0.out.below)
  have G3 := Lib.hid (g3.step G0.out.below)
  have G4 := Lib.hid (g4.step G0.out.below)
  obtain ⟨A5, c5, rfl⟩ := prs_form2 g1
  obtain ⟨A6, c6, rfl⟩ := prs_form2 g2
  obtain ⟨A7, c7, rfl⟩ := faces_form g3
  obtain ⟨A8, c8, rfl⟩ := ints_form g4
  clear hb g1 g2 g3 g4 x0 x1
  obtain ⟨x0, x1, x2, x3, _⟩ := G0.out.1
  by_cases hok : ok = true
  · subst hok
    by_cases h1 : a < 1
    · have hz : ok2 = false := by
        rw [Bool.eq_false_iff]; intro h; have := HIN.out.1 h; omega
      subst hz
      go_wp2_with fail
      go_ret
      exact ⟨by rw [HNO2.out (by first | rfl | trivial)]; rfl, B1.out⟩
    · by_cases h4 : a > 4
      · have hz : ok2 = false := by
          rw [Bool.eq_false_iff]; intro h; have := HIN.out.1 h; omega
        subst hz
        go_wp2_with fail
        go_ret
        exact ⟨by rw [HNO2.out (by first | rfl | trivial)]; rfl, B1.out⟩
      · have hz : ok2 = true := HIN.out.2 (by omega)
        subst hz
        obtain ⟨n, rfl⟩ : ∃ n : Nat, a = n := ⟨a.toNat, by omega⟩
        have p1 : (1 : Int) ≤ (n : Int) := by omega
        have p2 : (n : Int) ≤ 4 := by omega
        have d1 : decide ((n : Int) < 1) = false := decide_eq_false h1
        have d2 : decide ((n : Int) > 4) = false := decide_eq_false h4
        have d3 : decide (4 < (n : Int)) = false := decide_eq_false h4
        go_wp2_with fail
        refine (HBK.out _ _ _ _ _ _ _ G1.out G2.out G3.out G4.out).mono ?_
        rintro e w2 ⟨vb, vc, us, rfl, hcl, hb⟩
        have B2 := Lib.hid (B1.out.trans (hb.mono B1.out.size))
        have HCT := Lib.hid (count_any M rs.length n h13 (by omega) vb vc _ w.heap.size us B1.out.size w2 B2.out.size hcl)
        clear hb hcl
        go_wp2_with fail
        refine HCT.out.mono ?_
        rintro e w3 ⟨rfl, hb⟩
        have B3 := Lib.hid (B2.out.trans hb)
        clear hb
        go_wp2_with fail
        go_ret
        exact ⟨by rw [HY.out n rfl (by first | rfl | trivial) (by first | rfl | trivial)]; rfl, B3.out⟩
  · obtain rfl : ok = false := by simpa using hok
    go_wp2_with fail
    go_ret
    exact ⟨by rw [HNO1.out (by first | rfl | trivial)]; rfl, B1.out⟩
end Go.Proofs.YtmboilogcnmlnaaGreat
