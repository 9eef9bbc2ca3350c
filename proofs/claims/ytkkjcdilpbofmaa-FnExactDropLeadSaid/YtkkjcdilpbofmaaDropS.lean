/-
  DropLead of the model: a copy of the window without lead k, or the copy alone.
-/
import Derived.Test.YtkkjcdilpbofmaaDropI
import Derived.Deep.RegionHeld3
namespace Go.Proofs.Ytkkjcdilpbofmaa
open Go.RowKit
set_option linter.unusedVariables false
set_option linter.unusedSimpArgs false

/-- An append of pairs at a step of a region that draws. -/
theorem step_append_pairs {P : Program} {ops : Array Oper} {o : Oper} {a : Act} {w : World} {K : Act → World → Prop} {Q : Exit → Act → World → Prop} {E : Prop}
    (hg : o.guard = none) (s x : Operand) (t : TypeId) (hop : o.op = Op.call { callee := Callee.builtin Builtin.append, args := #[s, x], argTypes := #[t, t] })
    (B : Nat) (e : TypeId) (i : TypeInfo) (z : Value) (ht : P.underlying t = some (.slice e)) (hi : P.info? e = some i) (hz : i.zero = some z) (hsize : i.size = 2) (hby : i.bytes = 16) (hzs : z.cells.size = 2)
    (v : Value) (xs ys : List Nd) (hs : a.eval s = v) (hown : Own w B e v xs) (ad : Addr) (m c : Nat) (hx : a.eval x = .slice (some ad) m c) (hm : ys.length = m) (hc : ∀ j u, (cellsP ys)[j]? = some u → w.cell? (ad.add j) = some u)
    (hn : xs.length + ys.length ≤ 2000000) (hB : B ≤ w.heap.size)
    (h : ∀ v' w', Own w' B e v' (xs ++ ys) → w.grownBy w' v.ownBlock → K (a.put o.dst v') w') :
    if Region.wanted o (yielded ops a.tmps) = true then Oper.wp P o a w K Q else E := by
  have hw : Region.wanted o (yielded ops a.tmps) = true := by simp [Region.wanted, hg]
  rw [if_pos hw]
  subst hm
  obtain ⟨v', w', hr, h2, h3, -⟩ := run_append_own (P := P) w B t o.type e i z 2 16 ht hi hz hsize hby hzs (by decide) v xs.length (cellsP xs) hown ad ys.length c (cellsP ys) (cellsP_len ys) hc (cellsP_one _) (by unfold maxLen; omega) (by omega) hB
  unfold Oper.wp execOp
  simp only [hop, resolve, invoke, builtin, Sem.run_bind, Sem.run_pure, Result.andThen_ok, List.map_toArray, List.map_cons, List.map_nil, hs, hx]
  rw [hr]
  exact h v' w' (Own.more h2) h3
theorem wrap_succ {n : Nat} (h : n ≤ 1048576) : IntKind.i64.wrap ((n : Int) + 1) = (n : Int) + 1 := IntWalk.i64_in _ (by omega)
theorem take_news {w : World} {A : Addr} {c : Nat} {xs : List Nd} (h : Prs w (.slice (some A) xs.length c) xs) (h0 : 0 < xs.length) (q : Nat) : ∀ j u, (cellsP (xs.take q))[j]? = some u → w.cell? (A.add j) = some u := fun j u hu => by
  rw [cellsP_take, List.getElem?_take] at hu
  split at hu
  · exact prs_news h h0 j u hu
  · cases hu
theorem drop_news {w : World} {b o c : Nat} {xs : List Nd} (h : Prs w (.slice (some ⟨b, o, none⟩) xs.length c) xs) (h0 : 0 < xs.length) (q : Nat) : ∀ j u, (cellsP (xs.drop q))[j]? = some u → w.cell? ((⟨b, o + q * 2, none⟩ : Addr).add j) = some u := fun j u hu => by
  rw [cellsP_drop, List.getElem?_drop] at hu
  have := prs_news h h0 _ _ hu
  rw [Addr.add_lit] at this ⊢
  rw [show o + q * 2 + j = o + (q * 2 + j) by omega]
  exact this


set_option maxRecDepth 100000 in
set_option maxHeartbeats 2000000 in
theorem specDrop (ns ls : List Nd) (vn vl : Value) (k : Int) (w : World) (hn : Prs w vn ns) (hl : Prs w vl ls) (h1 : ns.length ≤ 1048576) (h2 : ls.length ≤ 1048576) :
    Calls Try.prog 42 #[.agg #[vn, vl], .int .i64 k] w (WinBIs ns (dropV ns ls k) (hasLB ns ls k) w) := by
  have HN := Lib.hid hn
  have HL := Lib.hid hl
  have hlen := hl.len
  obtain ⟨A, c, rfl⟩ := prs_form2 hn
  obtain ⟨A2, c2, rfl⟩ := prs_form2 hl
  obtain ⟨i1, hi0, hz0, hz1, hz2'⟩ := info_parts infoLead
  have HF := Lib.hid (And.intro hi0 (And.intro hz0 (And.intro hz1 hz2'))); clear hi0 hz0 hz1 hz2'
  have H0 := Lib.hid (held_res w (.slice A ns.length c) (.slice A2 ls.length c2) 38 38)
  have B0 := Lib.hid (show BlkN (w.heap.size + 1) 38 2 ((w.alloc (.cells #[.slice A ns.length c, .slice A2 ls.length c2] 38)).alloc (.cells #[.slice none 0 0, .slice none 0 0] 38)) from ⟨_, hz2 _ _ _, rfl⟩)
  have HC := Lib.hid (fun w k1 k2 => l04Copy_any ns ls (.slice A ns.length c) (.slice A2 ls.length c2) w k1 k2 h1 h2)
  unfold CopyIs at HC
  have HW := Lib.hid (fun w k1 k2 => specWin ns ls (.slice A ns.length c) (.slice A2 ls.length c2) w k1 k2)
  have HIN := Lib.hid (fun w => idxB_in ls.length k ▸ specIn k 0 ((ls.length : Int) - 1) w)
  have HB := Lib.hid (show hasLB ns ls k = (winB ns ls && idxB ls.length k) from rfl)
  have HYE := Lib.hid (show (hasLB ns ls k = true → dropV ns ls k = dropL ls k.toNat) ∧ (hasLB ns ls k = false → dropV ns ls k = ls) from ⟨fun h => if_pos h, fun h => if_neg (by rw [h]; exact Bool.false_ne_true)⟩)
  have HK := Lib.hid (show idxB ls.length k = true → ∃ q : Nat, k = q ∧ q < ls.length from fun h => by
    have := (idxB_iff _ _).1 h
    exact ⟨k.toNat, by omega, by omega⟩)
  have HPA := Lib.hid (show 0 < ls.length → ∃ b o, A2 = some ⟨b, o, none⟩ ∧ ls.length ≤ c2 ∧ c2 ≤ maxLen from fun h0 => by
    obtain ⟨A', c', e, hc1, hc2, hx⟩ := hl
    injection e with e1 _ e3
    subst e1; subst e3
    obtain ⟨b, o, hA, _⟩ := hx h0
    exact ⟨b, o, hA, hc1, hc2⟩)
  clear hn hl
  generalize dropV ns ls k = rl at *
  generalize hasLB ns ls k = r at *
  generalize winB ns ls = d1 at *
  generalize idxB ls.length k = d2 at *
  go_enter Try.func42, Try.ntmps42
  obtain ⟨x0, x1, x2, x3, _⟩ := H0.out.1
  go_wp2_with fail
  refine (HC.out _ (HN.out.step H0.out.below) (HL.out.step H0.out.below)).mono ?_
  rintro e w1 ⟨v1, v2, rfl, hm, hb⟩
  have H1 := Lib.hid (H0.out.step hb)
  have hs1 := hb.size
  have MO1 := Lib.hid (hm.mono (Lo' := w.heap.size + 2) (by simp))
  rw [show ((w.alloc (.cells #[.slice A ns.length c, .slice A2 ls.length c2] 38)).alloc (.cells #[.slice none 0 0, .slice none 0 0] 38)).heap.size = w.heap.size + 2 by simp] at hs1
  have OB := Lib.hid MO1.out.own
  have B1 := Lib.hid (B0.out.step hb)
  clear hm hb x0 x1 x2 x3
  obtain ⟨a1, c1, rfl, -⟩ := MO1.out.1.form
  obtain ⟨a2, c2', rfl, -⟩ := MO1.out.2.form
  have bb : Below w1.heap.size w1 (w1.alloc (.cells #[.slice a1 ns.length c1, .slice a2 ls.length c2'] 38)) := (Below.refl _ _).alloc (Nat.le_refl _) _
  have H2 := Lib.hid (H1.out.new2 w1.heap.size rfl [.slice a1 ns.length c1, .slice a2 ls.length c2'] 38)
  have MO2 := Lib.hid (MO1.out.step bb)
  have B2 := Lib.hid (B1.out.step bb)
  have T2 := Lib.hid (show BlkN w1.heap.size 38 2 (w1.alloc (.cells #[.slice a1 ns.length c1, .slice a2 ls.length c2'] 38)) from ⟨_, heap_alloc_new w1 _, rfl⟩)
  clear bb MO1 B1
  obtain ⟨x0, x1, x2, x3, x4, x5, _⟩ := H2.out.1
  go_wp2_with fail
  refine (HW.out _ (HN.out.step H2.out.below) (HL.out.step H2.out.below)).mono ?_
  rintro e w3 ⟨rfl, hb⟩
  have HX := Lib.hid (H2.out.step hb)
  have MWX := Lib.hid (MO2.out.step hb)
  have BX := Lib.hid (B2.out.step hb)
  have TX := Lib.hid (T2.out.step hb)
  clear hb x0 x1 x2 x3 x4 x5
  obtain ⟨x0, x1, x2, x3, x4, x5, _⟩ := HX.out.1
  cases d1
  · obtain rfl : r = false := by rw [HB.out]; rfl
    have OW := Lib.hid MWX.out.own
    have f0 := BX.out.frozen 0
    have f1 := BX.out.frozen 1
    have MZ := Lib.hid (((MWX.out.setFar (b := w.heap.size + 1) (o := 0) (x := .slice a1 ns.length c1) (fun e => by have := OW.out _ (.inl e); omega) (fun e => by have := OW.out _ (.inr e); omega)).setFar (b := w.heap.size + 1) (o := 1) (x := .slice a2 ls.length c2') (fun e => by have := OW.out _ (.inl e); omega) (fun e => by have := OW.out _ (.inr e); omega)).mono (Lo' := w.heap.size) (by omega))
    have HZ := Lib.hid ((HX.out.only (fun h => h.2.2) (fun h => h.2.2)).put2 (x' := .slice a1 ns.length c1) (z := .slice a2 ls.length c2') ⟨by omega, by omega, trivial⟩ (by omega))
    go_wp2_with fail
    have y0 := HZ.out.1.1
    have y1 := HZ.out.1.2.1
    refine bodyPost_ret (v := .tuple #[.agg #[.slice a1 ns.length c1, .slice a2 ls.length c2'], .bool false]) (by simp [results, Try.results42, go_sem, y0, y1]) rfl ?_
    exact ⟨_, _, rfl, by rw [HYE.out.2 trivial]; exact MZ.out, HZ.out.below⟩
  · go_wp2_with fail
    refine (HIN.out _).mono ?_
    rintro e w' ⟨rfl, rfl⟩
    cases d2
    · obtain rfl : r = false := by rw [HB.out]; rfl
      have OW := Lib.hid MWX.out.own
      have f0 := BX.out.frozen 0
      have f1 := BX.out.frozen 1
      have MZ := Lib.hid (((MWX.out.setFar (b := w.heap.size + 1) (o := 0) (x := .slice a1 ns.length c1) (fun e => by have := OW.out _ (.inl e); omega) (fun e => by have := OW.out _ (.inr e); omega)).setFar (b := w.heap.size + 1) (o := 1) (x := .slice a2 ls.length c2') (fun e => by have := OW.out _ (.inl e); omega) (fun e => by have := OW.out _ (.inr e); omega)).mono (Lo' := w.heap.size) (by omega))
      have HZ := Lib.hid ((HX.out.only (fun h => h.2.2) (fun h => h.2.2)).put2 (x' := .slice a1 ns.length c1) (z := .slice a2 ls.length c2') ⟨by omega, by omega, trivial⟩ (by omega))
      go_wp2_with fail
      have y0 := HZ.out.1.1
      have y1 := HZ.out.1.2.1
      refine bodyPost_ret (v := .tuple #[.agg #[.slice a1 ns.length c1, .slice a2 ls.length c2'], .bool false]) (by simp [results, Try.results42, go_sem, y0, y1]) rfl ?_
      exact ⟨_, _, rfl, by rw [HYE.out.2 trivial]; exact MZ.out, HZ.out.below⟩
    · obtain rfl : r = true := by rw [HB.out]; rfl
      obtain ⟨q, rfl, hq⟩ := HK.out rfl
      obtain ⟨b2, o2, rfl, hc1, hc2⟩ := HPA.out (by omega)
      unfold maxLen at hc2
      obtain ⟨AD, hA, hsrc⟩ : ∃ AD : Addr, (if c2 = q + 1 then some (⟨b2, o2, none⟩ : Addr) else some ⟨b2, o2 + (q + 1) * 2, none⟩) = some AD ∧ Hid (∀ W, Below w.heap.size w W → ∀ j u, (cellsP (ls.drop (q + 1)))[j]? = some u → W.cell? (AD.add j) = some u) := by
        by_cases hcap : c2 = q + 1
        · refine ⟨⟨b2, o2, none⟩, by simp [hcap], fun W _ j u hu => ?_⟩
          rw [List.drop_of_length_le (by omega)] at hu
          simp [cellsP] at hu
        · exact ⟨⟨b2, o2 + (q + 1) * 2, none⟩, by simp [hcap], fun W hW => drop_news (HL.out.step hW) (by omega) (q + 1)⟩
      have q0 : (0 : Int) ≤ (q : Int) := by omega
      have q1 : (q : Int) + 1 ≤ (ls.length : Int) := by omega
      have q2 : (ls.length : Int) ≤ (c2 : Int) := by omega
      have q3 : (0 : Int) ≤ (q : Int) + 1 := by omega
      have hic : q ≤ c2 := by omega
      have hjc : q + 1 ≤ c2 := by omega
      have hnc : q + 1 ≤ ls.length := by omega
      have hqi : (q : Int) ≤ (c2 : Int) := by omega
      have ft := TX.out.frozen 1
      have hlt0 : w.heap.size < w3.heap.size := HX.out.2.1.2.2.2.2.1
      have hlt1 : w1.heap.size < w3.heap.size := HX.out.2.1.1
      have HBW := Lib.hid HX.out.below
      have HTL := Lib.hid (fun W (hW : Below w.heap.size w W) => take_news (HL.out.step hW) (show 0 < ls.length by omega) q)
      have hb4 : Below w3.heap.size w3 (w3.drew.alloc (.cells #[] 57)) := (Below.refl w3.heap.size w3).drew.alloc (Nat.le_refl _) _
      have M4 := Lib.hid (Own.made w3.drew w3.heap.size w3.heap.size 57 rfl (Nat.le_refl _))
      have E1 := Lib.hid (show (ls.take q).length = q by simp; omega)
      have E2 := Lib.hid (show ([] : List Nd).length + (ls.take q).length ≤ 2000000 by simp; omega)
      have E3 := Lib.hid (show (ls.drop (q + 1)).length = ls.length - (q + 1) by simp)
      have E4 := Lib.hid (show (ls.take q).length + (ls.drop (q + 1)).length ≤ 2000000 by simp; omega)
      have E5 := Lib.hid (show w1.heap.size ≠ w.heap.size by omega)
      have hq2 : q ≤ 1048576 := by omega
      obtain ⟨l2, hl2⟩ : ∃ l2, l2 = ls.take q ++ ls.drop (q + 1) := ⟨_, rfl⟩
      have HL2 := Lib.hid hl2; clear hl2
      clear x0 x2 x3 x4
      go_wp2_with fail
      have hwr := wrap_succ hq2
      go_region_held3 (fun W => W.cell? ⟨w.heap.size, 1, none⟩ = some (.slice (some ⟨b2, o2, none⟩) ls.length c2))
        (first
          | (go_keep; done)
          | (exact (hb6.cell (p := ⟨w.heap.size, 1, none⟩) hlt0).trans x5)
          | (exact (hb5.cell (p := ⟨w.heap.size, 1, none⟩) hlt0).trans x5)
          | (exact (hb4.cell (p := ⟨w.heap.size, 1, none⟩) hlt0).trans x5)
          | (exact (World.cell?_setCell_other _ _ _ _ (fun e => E5.out (by injection e))).trans ((hb6.cell (p := ⟨w.heap.size, 1, none⟩) hlt0).trans x5)))
        (first
          | ((refine step_append_pairs rfl _ _ _ (by rfl) w3.heap.size 57 i1 _ Try.underlying36 HF.out.1 HF.out.2.1 HF.out.2.2.1 HF.out.2.2.2 (by rfl) (.slice (some ⟨w3.heap.size, 0, none⟩) 0 0) [] (ls.take q) (by rfl) M4.out ⟨b2, o2, none⟩ q c2 (by rfl) E1.out (HTL.out _ (HBW.out.trans (hb4.mono HBW.out.size))) E2.out hb4.size ?_
              intro v5 w5 hown5 hgrow5
              have hb5 := hb4.trans (grown_belowP M4.out hb4.size hgrow5)))
          | ((refine step_append_pairs rfl _ _ _ (by rfl) w3.heap.size 57 i1 _ Try.underlying36 HF.out.1 HF.out.2.1 HF.out.2.2.1 HF.out.2.2.2 (by rfl) v5 (ls.take q) (ls.drop (q + 1)) (by rfl) hown5 AD (ls.length - (q + 1)) (c2 - (q + 1)) (by rfl) E3.out (hsrc.out _ (HBW.out.trans (hb5.mono HBW.out.size))) E4.out hb5.size ?_
              intro v6 w6 hown6 hgrow6
              rw [← HL2.out] at hown6
              obtain ⟨a6, c6, rfl, -⟩ := hown6.form
              have hb6 := hb5.trans (grown_belowP hown5 hb5.size hgrow6)
              have k6 := (hb6.cell (p := ⟨w1.heap.size, 1, none⟩) hlt1).trans x1
              have g6 := (hb6.frozen (p := ⟨w1.heap.size, 1, none⟩) hlt1).trans ft)))
      clear hwr k6 g6 x1 x5
      have H6 := Lib.hid (HX.out.step hb6)
      have hv1 : (Value.slice a1 ns.length c1).ownBlock ≠ some w1.heap.size := fun e => by have := OB.out _ (.inl e); omega
      have hv2 : (Value.slice a6 l2.length c6).ownBlock ≠ some w1.heap.size := fun e => by have := (hown6.own _ e).1; omega
      have B7 := Lib.hid ((BX.out.step hb6).setFar (g := w1.heap.size) (o := 1) (x := .slice a6 l2.length c6) (by omega))
      have MW7 := Lib.hid (show WinO (w6.setCell ⟨w1.heap.size, 1, none⟩ (.slice a6 l2.length c6)) (w.heap.size + 2) (.slice a1 ns.length c1) (.slice a6 l2.length c6) ns l2 from ⟨(MWX.out.1.step hb6).setFar hv1, (hown6.mono (by omega)).setFar hv2⟩)
      have H7 := Lib.hid (H6.out.put1 (z := .slice a6 l2.length c6) ⟨by omega, by omega, by omega, by omega, trivial⟩ (by omega))
      clear hown5 hown6 hgrow5 hgrow6 hb4 hb5 hb6 hv1 hv2 H6 hA hq2 q0 q1 q2 q3 hic hjc hnc hqi ft
      have HX2 := Lib.hid (H7.out.only (fun h => h.2.2) (fun h => h.2.2))
      have OW := Lib.hid MW7.out.own
      have f2 := B7.out.frozen 0
      have f3 := B7.out.frozen 1
      have MZ := Lib.hid (((MW7.out.setFar (b := w.heap.size + 1) (o := 0) (x := .slice a1 ns.length c1) (fun e => by have := OW.out _ (.inl e); omega) (fun e => by have := OW.out _ (.inr e); omega)).setFar (b := w.heap.size + 1) (o := 1) (x := .slice a6 l2.length c6) (fun e => by have := OW.out _ (.inl e); omega) (fun e => by have := OW.out _ (.inr e); omega)).mono (Lo' := w.heap.size) (by omega))
      have HZ := Lib.hid (HX2.out.put2 (x' := .slice a1 ns.length c1) (z := .slice a6 l2.length c6) ⟨by omega, by omega, trivial⟩ (by omega))
      obtain ⟨x0, x1, x2, x3, x4, x5, _⟩ := H7.out.1
      go_wp2_with fail
      have y0 := HZ.out.1.1
      have y1 := HZ.out.1.2.1
      refine bodyPost_ret (v := .tuple #[.agg #[.slice a1 ns.length c1, .slice a6 l2.length c6], .bool true]) (by simp [results, Try.results42, go_sem, y0, y1]) rfl ?_
      exact ⟨_, _, rfl, by rw [HYE.out.1 trivial]; exact HL2.out ▸ MZ.out, HZ.out.below⟩
end Go.Proofs.Ytkkjcdilpbofmaa
