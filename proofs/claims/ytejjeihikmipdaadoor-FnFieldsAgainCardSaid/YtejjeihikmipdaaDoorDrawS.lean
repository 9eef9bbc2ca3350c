/-
  What DrawSplitFields returns: a text of at most 1000 bytes.
-/
import Derived.Test.YtejjeihikmipdaaDoorText
import Derived.Test.YtejjeihikmipdaaDoorDrawH
import Derived.Test.YtejjeihikmipdaaDoorFmt
namespace Go.Proofs.YtejjeihikmipdaaDoor
open Go.RowKit
set_option linter.unusedVariables false
set_option linter.unusedSimpArgs false

theorem l01Pick_any {B b g m : Nat} {w : World} {len cap : Nat} {cs : Array Value} (h : Cur 54 B w b) (hg : w.heap[g]? = some (.cells cs 9 (0, 0))) (hne : g ≠ b) (hl : 0 < len) (hmax : len ≤ maxLen)
    (hf : ∀ j, j < len → ∃ s : ByteArray, cs[j]? = some (.string s) ∧ s.size ≤ m) :
    Calls Tryd.prog 30 #[.pointer (some ⟨b, 0, none⟩), .slice (some ⟨g, 0, none⟩) len cap] w (DrawnT 54 B b m w) := by
  unfold maxLen at hmax
  have HC := Lib.hid h; clear h
  have HF := Lib.hid hf; clear hf
  have HG := Lib.hid hg; clear hg
  go_enter Tryd.func30, Tryd.ntmps30
  go_wp2_with fail
  refine (l01Below_any _ HC.out).mono ?_
  rintro e w1 ⟨x, ⟨hx0, hx1, _⟩, rfl, hc1, hs1⟩
  have hx2 := hx1 (by omega)
  clear hx1
  obtain ⟨j, rfl⟩ := Int.eq_ofNat_of_zero_le hx0
  obtain ⟨s, hs, hm⟩ := HF.out j (by omega)
  have hcell : w1.cell? ⟨g, j, none⟩ = some (.string s) := by
    rw [cell_of_cells ((hs1.block g hne).trans HG.out)]; exact hs
  have HC1 := Lib.hid hc1; clear hc1
  have HS1 := Lib.hid hs1; clear hs1 hs
  go_wp2_with fail
  go_ret
  exact ⟨s, hm, rfl, HC1.out, HS1.out.grown⟩

theorem u8_of (x : Int) (h0 : 0 ≤ x) (h1 : x ≤ 255) : ∃ c : UInt8, (c.toNat : Int) = x := by
  obtain ⟨k, rfl⟩ := Int.eq_ofNat_of_zero_le h0
  exact ⟨UInt8.ofNat k, by simp; omega⟩
theorem size_app (a b : ByteArray) : (a ++ b).size = a.size + b.size := ByteArray.size_append

set_option maxHeartbeats 2000000 in
set_option maxRecDepth 100000 in
theorem drawSplitFields_any {w : World} {a : Option Addr} {len cap : Nat} (h : BytesAt w.heap.size w a len) :
    Calls Tryd.prog 15 #[.slice a len cap] w (OneText 1000 w) := by
  have HY := Lib.hid h; clear h
  have hcv := run_convert_one (P := Tryd.prog) 22 9 5 Tryd.underlying22 Tryd.underlying5 Tryd.underlying9
  have HCV := Lib.hid hcv; clear hcv
  go_enter Tryd.func15, Tryd.ntmps15
  go_wp2_with fail
  refine (l01New_any (Nat.le_refl _) HY.out).mono ?_
  rintro e w1 ⟨rfl, hb1, hz1, hc1⟩
  have HC1 := Lib.hid hc1; clear hc1
  have HB1 := Lib.hid hb1; clear hb1 hz1
  go_wp2_with fail
  refine (l01Below_any _ HC1.out).mono ?_
  rintro e w2 ⟨x, ⟨hx0, hx1, _⟩, rfl, hc2, hs2⟩
  have hx2 := hx1 (by omega)
  clear hx1
  have HC2 := Lib.hid hc2; clear hc2
  have HB2 := Lib.hid (HB1.out.trans (hs2.below (Nat.le_refl _))); clear hs2
  go_wp2_with fail
  refine (l01Once_any _ HC2.out).mono ?_
  rintro e w3 ⟨v, rfl, hc3, hs3⟩
  have HC3 := Lib.hid hc3; clear hc3
  have HB3 := Lib.hid (HB2.out.trans (hs3.below (Nat.le_refl _))); clear hs3
  cases v
  · obtain ⟨n, rfl⟩ := Int.eq_ofNat_of_zero_le hx0
    have hn25 : n ≤ 25 := by omega
    clear hx2 HC1 HB1 HC2 HB2
    go_wp2_with fail
    go_loopw [5, 6, 7] (fun sv iv kv wr => ∃ (i : Nat) (t : ByteArray), i ≤ n ∧ iv = .int .i64 i ∧ sv = .string t ∧ t.size ≤ 8 * i ∧ Cur 54 w.heap.size wr w.heap.size ∧ Below w.heap.size w wr) (fun _ iv _ _ => n - (intOf iv).toNat)
    case atStart => exact ⟨0, _, Nat.zero_le _, rfl, rfl, Nat.le_refl _, HC3.out, HB3.out⟩
    case round =>
      obtain ⟨i, t, hi, rfl, rfl, ht, hcr, hbr⟩ := hrel
      have HCo := Lib.hid hcr; clear hcr
      have HBo := Lib.hid hbr; clear hbr
      by_cases hlt : i < n
      · by_cases hi0 : 0 < i
        · go_wp2_with fail
          refine (l01Below_any _ HCo.out).mono ?_
          rintro e wp ⟨p, ⟨hp0, hp1, _⟩, rfl, hcp, hsp⟩
          have hp2 := hp1 (by omega)
          clear hp1
          have HCp := Lib.hid hcp; clear hcp
          have HBp := Lib.hid (HBo.out.trans (hsp.below (Nat.le_refl _))); clear hsp
          go_wp2_with fail
          refine (l01Below_any _ HCp.out).mono ?_
          rintro e wq ⟨q, ⟨hq0, hq1, _⟩, rfl, hcq, hsq⟩
          have hq2 := hq1 (by omega)
          clear hq1
          have HCq := Lib.hid hcq; clear hcq
          have HBq := Lib.hid (HBp.out.trans (hsq.below (Nat.le_refl _))); clear hsq
          obtain ⟨pn, rfl⟩ := Int.eq_ofNat_of_zero_le hp0
          obtain ⟨qn, rfl⟩ := Int.eq_ofNat_of_zero_le hq0
          have hpq : pn * qn ≤ 2 := by
            have h1 : pn ≤ 1 := by omega
            have h2 : qn ≤ 2 := by omega
            exact Nat.le_trans (Nat.mul_le_mul h1 h2) (by decide)
          have hpqe : (pn : Int) * (qn : Int) = ((pn * qn : Nat) : Int) := by simp
          obtain ⟨u, hu⟩ : ∃ u, u = pn * qn := ⟨_, rfl⟩
          rw [← hu] at hpqe hpq
          have HPQ := Lib.hid hpqe; clear hpqe hu
          have hu1 : (1 : Int) + (u : Int) = ((1 + u : Nat) : Int) := by omega
          have HU1 := Lib.hid hu1; clear hu1
          have hpqx := HPQ.out
          go_wp2_with fail
          rw [HU1.out]
          refine (l01Long_any (1 + u) 32 _ (by omega)).mono ?_
          rintro e wl ⟨sl, hsl, rfl, hbl⟩
          have hslb : sl.size ≤ 3 := by omega
          clear hsl hpqx
          have HCl := Lib.hid (HCq.out.keep (w' := wl) (fun k hk => hbl.block k (by have := HCq.out.lt; omega)))
          have HBl := Lib.hid (HBq.out.trans (hbl.mono HBq.out.size)); clear hbl
          go_wp2_with fail
          go_loopw [5, 7] (fun sv kv wr => ∃ (j : Nat) (t' : ByteArray), j ≤ 5 ∧ kv = .int .i64 j ∧ sv = .string t' ∧ t'.size ≤ 8 * i + 3 + j ∧ Cur 54 w.heap.size wr w.heap.size ∧ Below w.heap.size w wr) (fun _ kv _ => 5 - (intOf kv).toNat)
          case atStart => exact ⟨0, _, Nat.zero_le _, rfl, rfl, by rw [size_app]; omega, HCl.out, HBl.out⟩
          case round =>
            obtain ⟨j, t', hj, rfl, rfl, ht', hcr, hbr⟩ := hrel
            have HCr := Lib.hid hcr; clear hcr
            have HBr := Lib.hid hbr; clear hbr
            go_wp2_with fail
            refine (l01Below_any _ HCr.out).mono ?_
            rintro e wa ⟨r, ⟨hr0, hr1, _⟩, rfl, hca, hsa⟩
            have hr2 := hr1 (by omega)
            clear hr1
            have HCa := Lib.hid hca; clear hca
            have HBa := Lib.hid (HBr.out.trans (hsa.below (Nat.le_refl _))); clear hsa
            by_cases hjr : (j : Int) ≤ r
            · go_wp2_with fail
              refine (l01Below_any _ HCa.out).mono ?_
              rintro e wb ⟨z, ⟨hz0, hz1, _⟩, rfl, hcb, hsb⟩
              have hz2 := hz1 (by omega)
              clear hz1
              have HCb := Lib.hid hcb; clear hcb
              have HBb := Lib.hid (HBa.out.trans (hsb.below (Nat.le_refl _))); clear hsb
              obtain ⟨c, hcz⟩ := u8_of (33 + z) (by omega) (by omega)
              have hcv1 := HCV.out c wb
              rw [hcz] at hcv1
              have HCZ := Lib.hid hcz; clear hcz
              have hbsz := HBb.out.size
              go_wp2_with fail
              refine ⟨⟨j + 1, t' ++ ⟨#[c]⟩, by omega, by go_num, rfl, ?_, HCb.out.alloc _, HBb.out.alloc hbsz _⟩, by simp [intOf]; omega⟩
              rw [size_app]
              show t'.size + 1 ≤ _
              omega
            · go_wp2_with fail
              exact ⟨⟨i + 1, t', by omega, by go_num, rfl, by omega, HCa.out, HBa.out⟩, by simp [intOf]; omega⟩
        · go_wp2_with fail
          refine (l01Once_any _ HCo.out).mono ?_
          rintro e wo ⟨vo, rfl, hco, hso⟩
          have HCw := Lib.hid hco; clear hco
          have HBw := Lib.hid (HBo.out.trans (hso.below (Nat.le_refl _))); clear hso
          cases vo
          · go_wp2_with fail
            go_loopw [5, 7] (fun sv kv wr => ∃ (j : Nat) (t' : ByteArray), j ≤ 5 ∧ kv = .int .i64 j ∧ sv = .string t' ∧ t'.size ≤ 8 * i + 3 + j ∧ Cur 54 w.heap.size wr w.heap.size ∧ Below w.heap.size w wr) (fun _ kv _ => 5 - (intOf kv).toNat)
            case atStart => exact ⟨0, _, Nat.zero_le _, rfl, rfl, by omega, HCw.out, HBw.out⟩
            case round =>
              obtain ⟨j, t', hj, rfl, rfl, ht', hcr, hbr⟩ := hrel
              have HCr := Lib.hid hcr; clear hcr
              have HBr := Lib.hid hbr; clear hbr
              go_wp2_with fail
              refine (l01Below_any _ HCr.out).mono ?_
              rintro e wa ⟨r, ⟨hr0, hr1, _⟩, rfl, hca, hsa⟩
              have hr2 := hr1 (by omega)
              clear hr1
              have HCa := Lib.hid hca; clear hca
              have HBa := Lib.hid (HBr.out.trans (hsa.below (Nat.le_refl _))); clear hsa
              by_cases hjr : (j : Int) ≤ r
              · go_wp2_with fail
                refine (l01Below_any _ HCa.out).mono ?_
                rintro e wb ⟨z, ⟨hz0, hz1, _⟩, rfl, hcb, hsb⟩
                have hz2 := hz1 (by omega)
                clear hz1
                have HCb := Lib.hid hcb; clear hcb
                have HBb := Lib.hid (HBa.out.trans (hsb.below (Nat.le_refl _))); clear hsb
                obtain ⟨c, hcz⟩ := u8_of (33 + z) (by omega) (by omega)
                have hcv1 := HCV.out c wb
                rw [hcz] at hcv1
                have HCZ := Lib.hid hcz; clear hcz
                have hbsz := HBb.out.size
                go_wp2_with fail
                refine ⟨⟨j + 1, t' ++ ⟨#[c]⟩, by omega, by go_num, rfl, ?_, HCb.out.alloc _, HBb.out.alloc hbsz _⟩, by simp [intOf]; omega⟩
                rw [size_app]
                show t'.size + 1 ≤ _
                omega
              · go_wp2_with fail
                exact ⟨⟨i + 1, t', by omega, by go_num, rfl, by omega, HCa.out, HBa.out⟩, by simp [intOf]; omega⟩
          · go_wp2_with fail
            refine (l01Below_any _ HCw.out).mono ?_
            rintro e wp ⟨p, ⟨hp0, hp1, _⟩, rfl, hcp, hsp⟩
            have hp2 := hp1 (by omega)
            clear hp1
            have HCp := Lib.hid hcp; clear hcp
            have HBp := Lib.hid (HBw.out.trans (hsp.below (Nat.le_refl _))); clear hsp
            go_wp2_with fail
            refine (l01Below_any _ HCp.out).mono ?_
            rintro e wq ⟨q, ⟨hq0, hq1, _⟩, rfl, hcq, hsq⟩
            have hq2 := hq1 (by omega)
            clear hq1
            have HCq := Lib.hid hcq; clear hcq
            have HBq := Lib.hid (HBp.out.trans (hsq.below (Nat.le_refl _))); clear hsq
            obtain ⟨pn, rfl⟩ := Int.eq_ofNat_of_zero_le hp0
            obtain ⟨qn, rfl⟩ := Int.eq_ofNat_of_zero_le hq0
            have hpq : pn * qn ≤ 2 := by
              have h1 : pn ≤ 1 := by omega
              have h2 : qn ≤ 2 := by omega
              exact Nat.le_trans (Nat.mul_le_mul h1 h2) (by decide)
            have hpqe : (pn : Int) * (qn : Int) = ((pn * qn : Nat) : Int) := by simp
            obtain ⟨u, hu⟩ : ∃ u, u = pn * qn := ⟨_, rfl⟩
            rw [← hu] at hpqe hpq
            have HPQ := Lib.hid hpqe; clear hpqe hu
            have hu1 : (1 : Int) + (u : Int) = ((1 + u : Nat) : Int) := by omega
            have HU1 := Lib.hid hu1; clear hu1
            have hpqx := HPQ.out
            go_wp2_with fail
            rw [HU1.out]
            refine (l01Long_any (1 + u) 32 _ (by omega)).mono ?_
            rintro e wl ⟨sl, hsl, rfl, hbl⟩
            have hslb : sl.size ≤ 3 := by omega
            clear hsl hpqx
            have HCl := Lib.hid (HCq.out.keep (w' := wl) (fun k hk => hbl.block k (by have := HCq.out.lt; omega)))
            have HBl := Lib.hid (HBq.out.trans (hbl.mono HBq.out.size)); clear hbl
            go_wp2_with fail
            go_loopw [5, 7] (fun sv kv wr => ∃ (j : Nat) (t' : ByteArray), j ≤ 5 ∧ kv = .int .i64 j ∧ sv = .string t' ∧ t'.size ≤ 8 * i + 3 + j ∧ Cur 54 w.heap.size wr w.heap.size ∧ Below w.heap.size w wr) (fun _ kv _ => 5 - (intOf kv).toNat)
            case atStart => exact ⟨0, _, Nat.zero_le _, rfl, rfl, by rw [size_app]; omega, HCl.out, HBl.out⟩
            case round =>
              obtain ⟨j, t', hj, rfl, rfl, ht', hcr, hbr⟩ := hrel
              have HCr := Lib.hid hcr; clear hcr
              have HBr := Lib.hid hbr; clear hbr
              go_wp2_with fail
              refine (l01Below_any _ HCr.out).mono ?_
              rintro e wa ⟨r, ⟨hr0, hr1, _⟩, rfl, hca, hsa⟩
              have hr2 := hr1 (by omega)
              clear hr1
              have HCa := Lib.hid hca; clear hca
              have HBa := Lib.hid (HBr.out.trans (hsa.below (Nat.le_refl _))); clear hsa
              by_cases hjr : (j : Int) ≤ r
              · go_wp2_with fail
                refine (l01Below_any _ HCa.out).mono ?_
                rintro e wb ⟨z, ⟨hz0, hz1, _⟩, rfl, hcb, hsb⟩
                have hz2 := hz1 (by omega)
                clear hz1
                have HCb := Lib.hid hcb; clear hcb
                have HBb := Lib.hid (HBa.out.trans (hsb.below (Nat.le_refl _))); clear hsb
                obtain ⟨c, hcz⟩ := u8_of (33 + z) (by omega) (by omega)
                have hcv1 := HCV.out c wb
                rw [hcz] at hcv1
                have HCZ := Lib.hid hcz; clear hcz
                have hbsz := HBb.out.size
                go_wp2_with fail
                refine ⟨⟨j + 1, t' ++ ⟨#[c]⟩, by omega, by go_num, rfl, ?_, HCb.out.alloc _, HBb.out.alloc hbsz _⟩, by simp [intOf]; omega⟩
                rw [size_app]
                show t'.size + 1 ≤ _
                omega
              · go_wp2_with fail
                exact ⟨⟨i + 1, t', by omega, by go_num, rfl, by omega, HCa.out, HBa.out⟩, by simp [intOf]; omega⟩
      · go_wp2_with fail
        refine (l01Below_any _ HCo.out).mono ?_
        rintro e wz ⟨z, ⟨hz0, hz1, _⟩, rfl, hcz, hsz⟩
        have hz2 := hz1 (by omega)
        clear hz1
        have HCz := Lib.hid hcz; clear hcz
        have HBz := Lib.hid (HBo.out.trans (hsz.below (Nat.le_refl _))); clear hsz
        by_cases hz3 : z = 0
        · subst hz3
          go_wp2_with fail
          refine (l01Pick_any (m := 2) (HCz.out.alloc _) (heap_alloc_new _ _) (by have := HCz.out.lt; omega) (by omega) (by unfold maxLen; omega) ?_).mono ?_
          · intro j hj
            match j, hj with
            | 0, _ => exact ⟨_, rfl, by decide⟩
            | 1, _ => exact ⟨_, rfl, by decide⟩
            | 2, _ => exact ⟨_, rfl, by decide⟩
            | 3, _ => exact ⟨_, rfl, by decide⟩
            | 4, _ => exact ⟨_, rfl, by decide⟩
            | 5, _ => exact ⟨_, rfl, by decide⟩
          rintro e wf ⟨sf, hsf, rfl, hcf, hgf⟩
          have hbsz := HBz.out.size
          have HBf := Lib.hid (Goes.below (HBz.out.alloc hbsz _) hgf (Nat.le_refl _) (by simp; omega)); clear hgf hcf
          go_wp2_with fail
          go_ret
          exact ⟨t ++ sf, by rw [size_app]; omega, rfl, HBf.out⟩
        · by_cases hz4 : z = 1
          · subst hz4
            by_cases hts : t.size < 600
            · go_wp2_with fail
              refine (l01Below_any _ HCz.out).mono ?_
              rintro e wg ⟨y, ⟨hy0, hy1, _⟩, rfl, hcg, hsg⟩
              have hy2 := hy1 (by omega)
              clear hy1
              have HBg := Lib.hid (HBz.out.trans (hsg.below (Nat.le_refl _))); clear hsg hcg
              obtain ⟨yn, rfl⟩ := Int.eq_ofNat_of_zero_le hy0
              have hlen : (600 : Int) - (t.size : Int) + (yn : Int) = ((600 - t.size + yn : Nat) : Int) := by omega
              have HLEN := Lib.hid hlen; clear hlen
              go_wp2_with fail
              rw [HLEN.out]
              refine (l01Long_any (600 - t.size + yn) 32 _ (by omega)).mono ?_
              rintro e wl ⟨sl, hsl, rfl, hbl⟩
              have hslb : t.size + sl.size ≤ 601 := by omega
              clear hsl
              have HBl := Lib.hid (HBg.out.trans (hbl.mono HBg.out.size)); clear hbl
              go_wp2_with fail
              go_ret
              exact ⟨t ++ sl, by rw [size_app]; omega, rfl, HBl.out⟩
            · omega
          · go_wp2_with fail
            go_ret
            exact ⟨t, by omega, rfl, HBz.out⟩
  · go_wp2_with fail
    refine (l01Below_any _ HC3.out).mono ?_
    rintro e w4 ⟨y, ⟨hy0, hy1, _⟩, rfl, hc4, hs4⟩
    have hy2 := hy1 (by omega)
    clear hy1
    have HC4 := Lib.hid hc4; clear hc4
    have HB4 := Lib.hid (HB3.out.trans (hs4.below (Nat.le_refl _))); clear hs4
    obtain ⟨m, rfl⟩ := Int.eq_ofNat_of_zero_le hy0
    obtain ⟨n, hn⟩ : ∃ n : Nat, n = 24 + m := ⟨_, rfl⟩
    have hn25 : n ≤ 25 := by omega
    have hne : (24 : Int) + (m : Int) = (n : Int) := by omega
    clear hn
    go_wp2_with fail
    clear hne hx2 HC1 HB1 HC2 HB2 HC3 HB3
    go_loopw [5, 6, 7] (fun sv iv kv wr => ∃ (i : Nat) (t : ByteArray), i ≤ n ∧ iv = .int .i64 i ∧ sv = .string t ∧ t.size ≤ 8 * i ∧ Cur 54 w.heap.size wr w.heap.size ∧ Below w.heap.size w wr) (fun _ iv _ _ => n - (intOf iv).toNat)
    case atStart => exact ⟨0, _, Nat.zero_le _, rfl, rfl, Nat.le_refl _, HC4.out, HB4.out⟩
    case round =>
      obtain ⟨i, t, hi, rfl, rfl, ht, hcr, hbr⟩ := hrel
      have HCo := Lib.hid hcr; clear hcr
      have HBo := Lib.hid hbr; clear hbr
      by_cases hlt : i < n
      · by_cases hi0 : 0 < i
        · go_wp2_with fail
          refine (l01Below_any _ HCo.out).mono ?_
          rintro e wp ⟨p, ⟨hp0, hp1, _⟩, rfl, hcp, hsp⟩
          have hp2 := hp1 (by omega)
          clear hp1
          have HCp := Lib.hid hcp; clear hcp
          have HBp := Lib.hid (HBo.out.trans (hsp.below (Nat.le_refl _))); clear hsp
          go_wp2_with fail
          refine (l01Below_any _ HCp.out).mono ?_
          rintro e wq ⟨q, ⟨hq0, hq1, _⟩, rfl, hcq, hsq⟩
          have hq2 := hq1 (by omega)
          clear hq1
          have HCq := Lib.hid hcq; clear hcq
          have HBq := Lib.hid (HBp.out.trans (hsq.below (Nat.le_refl _))); clear hsq
          obtain ⟨pn, rfl⟩ := Int.eq_ofNat_of_zero_le hp0
          obtain ⟨qn, rfl⟩ := Int.eq_ofNat_of_zero_le hq0
          have hpq : pn * qn ≤ 2 := by
            have h1 : pn ≤ 1 := by omega
            have h2 : qn ≤ 2 := by omega
            exact Nat.le_trans (Nat.mul_le_mul h1 h2) (by decide)
          have hpqe : (pn : Int) * (qn : Int) = ((pn * qn : Nat) : Int) := by simp
          obtain ⟨u, hu⟩ : ∃ u, u = pn * qn := ⟨_, rfl⟩
          rw [← hu] at hpqe hpq
          have HPQ := Lib.hid hpqe; clear hpqe hu
          have hu1 : (1 : Int) + (u : Int) = ((1 + u : Nat) : Int) := by omega
          have HU1 := Lib.hid hu1; clear hu1
          have hpqx := HPQ.out
          go_wp2_with fail
          rw [HU1.out]
          refine (l01Long_any (1 + u) 32 _ (by omega)).mono ?_
          rintro e wl ⟨sl, hsl, rfl, hbl⟩
          have hslb : sl.size ≤ 3 := by omega
          clear hsl hpqx
          have HCl := Lib.hid (HCq.out.keep (w' := wl) (fun k hk => hbl.block k (by have := HCq.out.lt; omega)))
          have HBl := Lib.hid (HBq.out.trans (hbl.mono HBq.out.size)); clear hbl
          go_wp2_with fail
          go_loopw [5, 7] (fun sv kv wr => ∃ (j : Nat) (t' : ByteArray), j ≤ 5 ∧ kv = .int .i64 j ∧ sv = .string t' ∧ t'.size ≤ 8 * i + 3 + j ∧ Cur 54 w.heap.size wr w.heap.size ∧ Below w.heap.size w wr) (fun _ kv _ => 5 - (intOf kv).toNat)
          case atStart => exact ⟨0, _, Nat.zero_le _, rfl, rfl, by rw [size_app]; omega, HCl.out, HBl.out⟩
          case round =>
            obtain ⟨j, t', hj, rfl, rfl, ht', hcr, hbr⟩ := hrel
            have HCr := Lib.hid hcr; clear hcr
            have HBr := Lib.hid hbr; clear hbr
            go_wp2_with fail
            refine (l01Below_any _ HCr.out).mono ?_
            rintro e wa ⟨r, ⟨hr0, hr1, _⟩, rfl, hca, hsa⟩
            have hr2 := hr1 (by omega)
            clear hr1
            have HCa := Lib.hid hca; clear hca
            have HBa := Lib.hid (HBr.out.trans (hsa.below (Nat.le_refl _))); clear hsa
            by_cases hjr : (j : Int) ≤ r
            · go_wp2_with fail
              refine (l01Below_any _ HCa.out).mono ?_
              rintro e wb ⟨z, ⟨hz0, hz1, _⟩, rfl, hcb, hsb⟩
              have hz2 := hz1 (by omega)
              clear hz1
              have HCb := Lib.hid hcb; clear hcb
              have HBb := Lib.hid (HBa.out.trans (hsb.below (Nat.le_refl _))); clear hsb
              obtain ⟨c, hcz⟩ := u8_of (33 + z) (by omega) (by omega)
              have hcv1 := HCV.out c wb
              rw [hcz] at hcv1
              have HCZ := Lib.hid hcz; clear hcz
              have hbsz := HBb.out.size
              go_wp2_with fail
              refine ⟨⟨j + 1, t' ++ ⟨#[c]⟩, by omega, by go_num, rfl, ?_, HCb.out.alloc _, HBb.out.alloc hbsz _⟩, by simp [intOf]; omega⟩
              rw [size_app]
              show t'.size + 1 ≤ _
              omega
            · go_wp2_with fail
              exact ⟨⟨i + 1, t', by omega, by go_num, rfl, by omega, HCa.out, HBa.out⟩, by simp [intOf]; omega⟩
        · go_wp2_with fail
          refine (l01Once_any _ HCo.out).mono ?_
          rintro e wo ⟨vo, rfl, hco, hso⟩
          have HCw := Lib.hid hco; clear hco
          have HBw := Lib.hid (HBo.out.trans (hso.below (Nat.le_refl _))); clear hso
          cases vo
          · go_wp2_with fail
            go_loopw [5, 7] (fun sv kv wr => ∃ (j : Nat) (t' : ByteArray), j ≤ 5 ∧ kv = .int .i64 j ∧ sv = .string t' ∧ t'.size ≤ 8 * i + 3 + j ∧ Cur 54 w.heap.size wr w.heap.size ∧ Below w.heap.size w wr) (fun _ kv _ => 5 - (intOf kv).toNat)
            case atStart => exact ⟨0, _, Nat.zero_le _, rfl, rfl, by omega, HCw.out, HBw.out⟩
            case round =>
              obtain ⟨j, t', hj, rfl, rfl, ht', hcr, hbr⟩ := hrel
              have HCr := Lib.hid hcr; clear hcr
              have HBr := Lib.hid hbr; clear hbr
              go_wp2_with fail
              refine (l01Below_any _ HCr.out).mono ?_
              rintro e wa ⟨r, ⟨hr0, hr1, _⟩, rfl, hca, hsa⟩
              have hr2 := hr1 (by omega)
              clear hr1
              have HCa := Lib.hid hca; clear hca
              have HBa := Lib.hid (HBr.out.trans (hsa.below (Nat.le_refl _))); clear hsa
              by_cases hjr : (j : Int) ≤ r
              · go_wp2_with fail
                refine (l01Below_any _ HCa.out).mono ?_
                rintro e wb ⟨z, ⟨hz0, hz1, _⟩, rfl, hcb, hsb⟩
                have hz2 := hz1 (by omega)
                clear hz1
                have HCb := Lib.hid hcb; clear hcb
                have HBb := Lib.hid (HBa.out.trans (hsb.below (Nat.le_refl _))); clear hsb
                obtain ⟨c, hcz⟩ := u8_of (33 + z) (by omega) (by omega)
                have hcv1 := HCV.out c wb
                rw [hcz] at hcv1
                have HCZ := Lib.hid hcz; clear hcz
                have hbsz := HBb.out.size
                go_wp2_with fail
                refine ⟨⟨j + 1, t' ++ ⟨#[c]⟩, by omega, by go_num, rfl, ?_, HCb.out.alloc _, HBb.out.alloc hbsz _⟩, by simp [intOf]; omega⟩
                rw [size_app]
                show t'.size + 1 ≤ _
                omega
              · go_wp2_with fail
                exact ⟨⟨i + 1, t', by omega, by go_num, rfl, by omega, HCa.out, HBa.out⟩, by simp [intOf]; omega⟩
          · go_wp2_with fail
            refine (l01Below_any _ HCw.out).mono ?_
            rintro e wp ⟨p, ⟨hp0, hp1, _⟩, rfl, hcp, hsp⟩
            have hp2 := hp1 (by omega)
            clear hp1
            have HCp := Lib.hid hcp; clear hcp
            have HBp := Lib.hid (HBw.out.trans (hsp.below (Nat.le_refl _))); clear hsp
            go_wp2_with fail
            refine (l01Below_any _ HCp.out).mono ?_
            rintro e wq ⟨q, ⟨hq0, hq1, _⟩, rfl, hcq, hsq⟩
            have hq2 := hq1 (by omega)
            clear hq1
            have HCq := Lib.hid hcq; clear hcq
            have HBq := Lib.hid (HBp.out.trans (hsq.below (Nat.le_refl _))); clear hsq
            obtain ⟨pn, rfl⟩ := Int.eq_ofNat_of_zero_le hp0
            obtain ⟨qn, rfl⟩ := Int.eq_ofNat_of_zero_le hq0
            have hpq : pn * qn ≤ 2 := by
              have h1 : pn ≤ 1 := by omega
              have h2 : qn ≤ 2 := by omega
              exact Nat.le_trans (Nat.mul_le_mul h1 h2) (by decide)
            have hpqe : (pn : Int) * (qn : Int) = ((pn * qn : Nat) : Int) := by simp
            obtain ⟨u, hu⟩ : ∃ u, u = pn * qn := ⟨_, rfl⟩
            rw [← hu] at hpqe hpq
            have HPQ := Lib.hid hpqe; clear hpqe hu
            have hu1 : (1 : Int) + (u : Int) = ((1 + u : Nat) : Int) := by omega
            have HU1 := Lib.hid hu1; clear hu1
            have hpqx := HPQ.out
            go_wp2_with fail
            rw [HU1.out]
            refine (l01Long_any (1 + u) 32 _ (by omega)).mono ?_
            rintro e wl ⟨sl, hsl, rfl, hbl⟩
            have hslb : sl.size ≤ 3 := by omega
            clear hsl hpqx
            have HCl := Lib.hid (HCq.out.keep (w' := wl) (fun k hk => hbl.block k (by have := HCq.out.lt; omega)))
            have HBl := Lib.hid (HBq.out.trans (hbl.mono HBq.out.size)); clear hbl
            go_wp2_with fail
            go_loopw [5, 7] (fun sv kv wr => ∃ (j : Nat) (t' : ByteArray), j ≤ 5 ∧ kv = .int .i64 j ∧ sv = .string t' ∧ t'.size ≤ 8 * i + 3 + j ∧ Cur 54 w.heap.size wr w.heap.size ∧ Below w.heap.size w wr) (fun _ kv _ => 5 - (intOf kv).toNat)
            case atStart => exact ⟨0, _, Nat.zero_le _, rfl, rfl, by rw [size_app]; omega, HCl.out, HBl.out⟩
            case round =>
              obtain ⟨j, t', hj, rfl, rfl, ht', hcr, hbr⟩ := hrel
              have HCr := Lib.hid hcr; clear hcr
              have HBr := Lib.hid hbr; clear hbr
              go_wp2_with fail
              refine (l01Below_any _ HCr.out).mono ?_
              rintro e wa ⟨r, ⟨hr0, hr1, _⟩, rfl, hca, hsa⟩
              have hr2 := hr1 (by omega)
              clear hr1
              have HCa := Lib.hid hca; clear hca
              have HBa := Lib.hid (HBr.out.trans (hsa.below (Nat.le_refl _))); clear hsa
              by_cases hjr : (j : Int) ≤ r
              · go_wp2_with fail
                refine (l01Below_any _ HCa.out).mono ?_
                rintro e wb ⟨z, ⟨hz0, hz1, _⟩, rfl, hcb, hsb⟩
                have hz2 := hz1 (by omega)
                clear hz1
                have HCb := Lib.hid hcb; clear hcb
                have HBb := Lib.hid (HBa.out.trans (hsb.below (Nat.le_refl _))); clear hsb
                obtain ⟨c, hcz⟩ := u8_of (33 + z) (by omega) (by omega)
                have hcv1 := HCV.out c wb
                rw [hcz] at hcv1
                have HCZ := Lib.hid hcz; clear hcz
                have hbsz := HBb.out.size
                go_wp2_with fail
                refine ⟨⟨j + 1, t' ++ ⟨#[c]⟩, by omega, by go_num, rfl, ?_, HCb.out.alloc _, HBb.out.alloc hbsz _⟩, by simp [intOf]; omega⟩
                rw [size_app]
                show t'.size + 1 ≤ _
                omega
              · go_wp2_with fail
                exact ⟨⟨i + 1, t', by omega, by go_num, rfl, by omega, HCa.out, HBa.out⟩, by simp [intOf]; omega⟩
      · go_wp2_with fail
        refine (l01Below_any _ HCo.out).mono ?_
        rintro e wz ⟨z, ⟨hz0, hz1, _⟩, rfl, hcz, hsz⟩
        have hz2 := hz1 (by omega)
        clear hz1
        have HCz := Lib.hid hcz; clear hcz
        have HBz := Lib.hid (HBo.out.trans (hsz.below (Nat.le_refl _))); clear hsz
        by_cases hz3 : z = 0
        · subst hz3
          go_wp2_with fail
          refine (l01Pick_any (m := 2) (HCz.out.alloc _) (heap_alloc_new _ _) (by have := HCz.out.lt; omega) (by omega) (by unfold maxLen; omega) ?_).mono ?_
          · intro j hj
            match j, hj with
            | 0, _ => exact ⟨_, rfl, by decide⟩
            | 1, _ => exact ⟨_, rfl, by decide⟩
            | 2, _ => exact ⟨_, rfl, by decide⟩
            | 3, _ => exact ⟨_, rfl, by decide⟩
            | 4, _ => exact ⟨_, rfl, by decide⟩
            | 5, _ => exact ⟨_, rfl, by decide⟩
          rintro e wf ⟨sf, hsf, rfl, hcf, hgf⟩
          have hbsz := HBz.out.size
          have HBf := Lib.hid (Goes.below (HBz.out.alloc hbsz _) hgf (Nat.le_refl _) (by simp; omega)); clear hgf hcf
          go_wp2_with fail
          go_ret
          exact ⟨t ++ sf, by rw [size_app]; omega, rfl, HBf.out⟩
        · by_cases hz4 : z = 1
          · subst hz4
            by_cases hts : t.size < 600
            · go_wp2_with fail
              refine (l01Below_any _ HCz.out).mono ?_
              rintro e wg ⟨y, ⟨hy0, hy1, _⟩, rfl, hcg, hsg⟩
              have hy2 := hy1 (by omega)
              clear hy1
              have HBg := Lib.hid (HBz.out.trans (hsg.below (Nat.le_refl _))); clear hsg hcg
              obtain ⟨yn, rfl⟩ := Int.eq_ofNat_of_zero_le hy0
              have hlen : (600 : Int) - (t.size : Int) + (yn : Int) = ((600 - t.size + yn : Nat) : Int) := by omega
              have HLEN := Lib.hid hlen; clear hlen
              go_wp2_with fail
              rw [HLEN.out]
              refine (l01Long_any (600 - t.size + yn) 32 _ (by omega)).mono ?_
              rintro e wl ⟨sl, hsl, rfl, hbl⟩
              have hslb : t.size + sl.size ≤ 601 := by omega
              clear hsl
              have HBl := Lib.hid (HBg.out.trans (hbl.mono HBg.out.size)); clear hbl
              go_wp2_with fail
              go_ret
              exact ⟨t ++ sl, by rw [size_app]; omega, rfl, HBl.out⟩
            · omega
          · go_wp2_with fail
            go_ret
            exact ⟨t, by omega, rfl, HBz.out⟩
end Go.Proofs.YtejjeihikmipdaaDoor
