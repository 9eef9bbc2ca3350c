/-
  The stains of the colors, of the program and of the model.
-/
import Derived.Test.YtfckgidilbjokacTrL
import Derived.Laws.AppendOwn
import Derived.Laws.OwnMore
namespace Go.Proofs.Ytfckgidilbjokac
open Go.RowKit
set_option linter.unusedVariables false
set_option linter.unusedSimpArgs false

theorem Tps.made (w : World) (b B : Nat) (T : TypeId) (hb : b = w.heap.size) (hB : B ≤ b) : Tps (w.alloc (.cells #[] T)) B T (.slice (some ⟨b, 0, none⟩) 0 0) [] := by
  subst hb
  exact World.ownsRow_made _ _ _ hB (by unfold maxLen; omega) rfl
theorem grown_belowT {B : Nat} {T : TypeId} {W W' : World} {v : Value} {xs : List Tr} {o : Obj} (h : Tps W B T v xs) (hB : B ≤ W.heap.size) (hg : (W.alloc o).grownBy W' v.ownBlock) : Below B W W' :=
  ((Below.refl B W).alloc hB o).grown hg (by simp; omega) fun k e => (h.own k e).1
theorem tri_news {w : World} {b : Nat} {x y z : Value} (h0 : w.cell? ⟨b, 0, none⟩ = some x) (h1 : w.cell? ⟨b, 1, none⟩ = some y) (h2 : w.cell? ⟨b, 2, none⟩ = some z) : ∀ j u, [x, y, z][j]? = some u → w.cell? ((⟨b, 0, none⟩ : Addr).add j) = some u := by
  intro j u h
  match j, h with
  | 0, h => simp at h; subst h; simpa [Addr.add] using h0
  | 1, h => simp at h; subst h; simpa [Addr.add] using h1
  | 2, h => simp at h; subst h; simpa [Addr.add] using h2
  | j + 3, h => simp at h

def stsB (xs : List Tr) : Bool := xs.all stainB
def colM (table : List Tr) (cols : List Int) : List Tr := cols.map fun c => atT table c.toNat
theorem colM_take (table : List Tr) {cols : List Int} {k : Nat} (h : k < cols.length) : colM table (cols.take (k + 1)) = colM table (cols.take k) ++ [atT table (atZ cols k).toNat] := by
  unfold colM
  rw [List.take_succ_eq_append_getElem h, atZ_get h, List.map_append]
  rfl
theorem colM_len (table : List Tr) (cols : List Int) : (colM table cols).length = cols.length := by simp [colM]
theorem inR_at {xs : List Int} {a b : Int} (h : inR xs a b = true) {k : Nat} (hk : k < xs.length) : a ≤ atZ xs k ∧ atZ xs k ≤ b := by
  unfold inR at h
  have := List.all_eq_true.1 h (atZ xs k) (by rw [← atZ_get hk]; exact List.getElem_mem hk)
  exact (inB_iff _ _ _).1 this
theorem inR_no {xs : List Int} {a b : Int} {k : Nat} (hk : k < xs.length) (h : inB (atZ xs k) a b = false) : inR xs a b = false := by
  unfold inR
  exact List.all_eq_false.2 ⟨atZ xs k, by rw [← atZ_get hk]; exact List.getElem_mem hk, by rw [h]; simp⟩
theorem stsB_no {xs : List Tr} {k : Nat} (hk : k < xs.length) (h : stainB (atT xs k) = false) : stsB xs = false := by
  unfold stsB
  exact List.all_eq_false.2 ⟨atT xs k, by rw [← atT_get hk]; exact List.getElem_mem hk, by rw [h]; simp⟩
theorem stsB_yes {xs : List Tr} (h : ∀ k, k < xs.length → stainB (atT xs k) = true) : stsB xs = true := by
  unfold stsB
  refine List.all_eq_true.2 fun x hx => ?_
  obtain ⟨k, hk, rfl⟩ := List.getElem_of_mem hx
  rw [atT_get hk]
  exact h k hk
theorem inR_yes {xs : List Int} {a b : Int} (h : ∀ k, k < xs.length → inB (atZ xs k) a b = true) : inR xs a b = true := by
  unfold inR
  refine List.all_eq_true.2 fun x hx => ?_
  obtain ⟨k, hk, rfl⟩ := List.getElem_of_mem hx
  rw [atZ_get hk]
  exact h k hk
/-- Stains in new memory, and a bool. -/
def TpsOk (T : TypeId) (xs : List Tr) (b : Bool) (w : World) (e : Ending) (w' : World) : Prop := ∃ v, e = .returned (.tuple #[v, .bool b]) ∧ Tps w' w.heap.size T v xs ∧ Below w.heap.size w w'
def colOk (cols : List Int) (table : List Tr) : Bool := stsB table && inR cols 0 ((table.length : Int) - 1)
def colT (cols : List Int) (table : List Tr) : List Tr := if colOk cols table = true then colM table cols else []

set_option maxRecDepth 100000 in
theorem implStains (xs : List Tr) (v : Value) (w : World) (hv : Trs w v xs) : Calls Try.prog 95 #[v] w (BoolIs (stsB xs) w) := by
  have HV := Lib.hid hv
  have hlen := hv.len
  obtain ⟨A, c, rfl⟩ := hv.form2
  clear hv
  have HNO := Lib.hid (fun k (hk : k < xs.length) h => stsB_no hk h)
  have HYES := Lib.hid (fun h => stsB_yes (xs := xs) h)
  generalize stsB xs = r at *
  go_enter Try.func95, Try.ntmps95
  go_wp2_with fail
  go_loopw [7] (fun i wr => ∃ k : Nat, k ≤ xs.length ∧ i = .int .i64 k ∧ (∀ j, j < k → stainB (atT xs j) = true) ∧ Held w wr []) (fun i _ => xs.length - (intOf i).toNat)
  case atStart => exact ⟨0, Nat.zero_le _, rfl, fun j hj => by omega, Held.none_ w⟩
  case round =>
    obtain ⟨k, hk, rfl, ha, hh⟩ := hrel
    have HA := Lib.hid ha; clear ha
    have H1 := Lib.hid hh; clear hh
    by_cases hlt : k < xs.length
    · obtain ⟨_, _, he, _, _, hcs⟩ := (HV.out.step H1.out.below).form
      injection he with he1 he2 he3
      obtain ⟨b, o, hA, hbl, hc0, hc1, hc2⟩ := hcs k hlt
      rw [← he1] at hA
      subst hA
      clear he1 he2 he3 hcs
      have HS := Lib.hid (implStain (atT xs k))
      have HN := Lib.hid (HNO.out k hlt)
      have HNX := Lib.hid (fun (h : stainB (atT xs k) = true) => (fun j (hj : j < k + 1) => (if e : j = k then e ▸ h else HA.out j (by omega)) : ∀ j, j < k + 1 → stainB (atT xs j) = true))
      have hz1 : (k : Int) < (xs.length : Int) := by omega
      have hz2 : (0 : Int) ≤ k := by omega
      generalize stainB (atT xs k) = d at *
      generalize atT xs k = t at *
      obtain ⟨x, y, z⟩ := t
      unfold Tr.val at HS
      simp only at HS hc0 hc1 hc2
      have H2 := Lib.hid (H1.out.new2 wr.heap.size rfl [.int .i64 x, .int .i64 y, .int .i64 z] 51)
      simp only [newFs, List.cons_append, List.nil_append, List.append_nil] at H2
      cases d
      · go_wp2_with fail
        obtain ⟨x0, x1, x2, _⟩ := H2.out.1
        go_wp2_with fail
        refine (HS.out _).mono ?_
        rintro e wH3 ⟨rfl, hb⟩
        have H3 := Lib.hid ((H2.out).step hb); clear hb
        try clear x0 x1 x2
        obtain ⟨x0, x1, x2, _⟩ := H3.out.1
        go_wp2_with fail
        go_ret
        exact ⟨ret_bool (HN.out trivial).symm, H3.out.below⟩
      · go_wp2_with fail
        obtain ⟨x0, x1, x2, _⟩ := H2.out.1
        go_wp2_with fail
        refine (HS.out _).mono ?_
        rintro e wH3 ⟨rfl, hb⟩
        have H3 := Lib.hid ((H2.out).step hb); clear hb
        try clear x0 x1 x2
        obtain ⟨x0, x1, x2, _⟩ := H3.out.1
        go_wp2_with fail
        exact ⟨⟨k + 1, by omega, by go_num, HNX.out trivial, H3.out.drop.drop.drop⟩, by simp [intOf]; omega⟩
    · obtain rfl : k = xs.length := by omega
      go_wp2_with fail
      go_ret
      exact ⟨ret_bool (HYES.out HA.out).symm, H1.out.below⟩


set_option maxRecDepth 100000 in
theorem implColor (cols : List Int) (table : List Tr) (vc vt : Value) (w : World) (hc : Seq w vc cols) (ht : Trs w vt table) (hl1 : cols.length ≤ 1048576) (hl2 : table.length ≤ 1048576) :
    Calls Try.prog 38 #[vc, vt] w (TpsOk 51 (colT cols table) (colOk cols table) w) := by
  obtain ⟨i0, hi, hz0, hz1, hz2⟩ := info_parts infoStain
  have HI := Lib.hid (And.intro hi (And.intro hz0 (And.intro hz1 hz2))); clear hi hz0 hz1 hz2
  have HC := Lib.hid hc
  have HV := Lib.hid ht
  obtain ⟨A, c, rfl⟩ := seq_form2 hc
  obtain ⟨A2, c2, rfl⟩ := ht.form2
  clear hc ht
  have HS := Lib.hid (fun w h => implStains table (.slice A2 table.length c2) w h)
  have HR := Lib.hid (fun w h => implInR cols (.slice A cols.length c) 0 ((table.length : Int) - 1) w h)
  have HT := Lib.hid (show colT cols table = if (stsB table && inR cols 0 ((table.length : Int) - 1)) = true then colM table cols else [] from rfl)
  have HO := Lib.hid (show colOk cols table = (stsB table && inR cols 0 ((table.length : Int) - 1)) from rfl)
  have HAT := Lib.hid (fun k (hk : k < cols.length) (h : inR cols 0 ((table.length : Int) - 1) = true) => inR_at h hk)
  generalize colT cols table = res at *
  generalize colOk cols table = ok at *
  generalize stsB table = d1 at *
  generalize inR cols 0 ((table.length : Int) - 1) = d2 at *
  have H0 := Lib.hid (Held.none_ w)
  cases d1
  · go_enter Try.func38, Try.ntmps38
    go_wp2_with fail
    refine (HS.out _ HV.out).mono ?_
    rintro e wH1 ⟨rfl, hb⟩
    have H1 := Lib.hid ((H0.out).step hb); clear hb
    go_wp2_with fail
    go_ret2
    refine ⟨_, by rw [HO.out]; rfl, ?_, H1.out.below⟩
    rw [HT.out]
    exact Tps.nil _ _ _
  cases d2
  · go_enter Try.func38, Try.ntmps38
    go_wp2_with fail
    refine (HS.out _ HV.out).mono ?_
    rintro e wH1 ⟨rfl, hb⟩
    have H1 := Lib.hid ((H0.out).step hb); clear hb
    go_wp2_with fail
    refine (HR.out _ (HC.out.step H1.out.below)).mono ?_
    rintro e wH2 ⟨rfl, hb⟩
    have H2 := Lib.hid ((H1.out).step hb); clear hb
    go_wp2_with fail
    go_ret2
    refine ⟨_, by rw [HO.out]; rfl, ?_, H2.out.below⟩
    rw [HT.out]
    exact Tps.nil _ _ _
  go_enter Try.func38, Try.ntmps38
  go_wp2_with fail
  refine (HS.out _ HV.out).mono ?_
  rintro e wH1 ⟨rfl, hb⟩
  have H1 := Lib.hid ((H0.out).step hb); clear hb
  go_wp2_with fail
  refine (HR.out _ (HC.out.step H1.out.below)).mono ?_
  rintro e wH2 ⟨rfl, hb⟩
  have H2 := Lib.hid ((H1.out).step hb); clear hb
  go_wp2_with fail
  have HB0 := Lib.hid H2.out.below
  go_loopw [6, 23] (fun v i wr => ∃ m : Nat, m ≤ cols.length ∧ i = .int .i64 m ∧ Tps wr w.heap.size 51 v (colM table (cols.take m)) ∧ Below w.heap.size w wr) (fun _ i _ => cols.length - (intOf i).toNat)
  case atStart => exact ⟨0, Nat.zero_le _, rfl, Tps.made _ _ _ _ rfl HB0.out.size, HB0.out.alloc HB0.out.size _⟩
  case round =>
    clear H0 H1 H2 HB0
    obtain ⟨m, hm, rfl, hown, hb⟩ := hrel
    have HOWN := Lib.hid hown; clear hown
    have HB := Lib.hid hb; clear hb
    by_cases hlt : m < cols.length
    · obtain ⟨_, _, he, _, _, hcs⟩ := (HC.out.step HB.out).form
      injection he with he1 he2 he3
      obtain ⟨b, o, hA, hbl, hc0⟩ := hcs m hlt
      rw [← he1] at hA
      subst hA
      clear he1 he2 he3 hcs
      obtain ⟨ha1, ha2⟩ := HAT.out m hlt trivial
      have HTK := Lib.hid (colM_take table hlt)
      have hll : (colM table (cols.take m)).length = m := by rw [colM_len, List.length_take]; omega
      generalize atZ cols m = q at *
      obtain ⟨j, rfl⟩ : ∃ j : Nat, q = j := ⟨q.toNat, by omega⟩
      have hj : j < table.length := by omega
      rw [Int.toNat_natCast] at HTK
      obtain ⟨_, _, he, _, _, hcs⟩ := (HV.out.step HB.out).form
      injection he with he1 he2 he3
      obtain ⟨b2, o2, hA, hbl2, hd0, hd1, hd2⟩ := hcs j hj
      rw [← he1] at hA
      subst hA
      clear he1 he2 he3 hcs
      generalize atT table j = t at *
      obtain ⟨x, y, z⟩ := t
      simp only at hd0 hd1 hd2
      have hz1 : (m : Int) < (cols.length : Int) := by omega
      have hz2 : (0 : Int) ≤ m := by omega
      have hz3 : (j : Int) < (table.length : Int) := by omega
      obtain ⟨hi, hz0, hz1', hz2'⟩ := HI.out
      have hsz := HB.out.size
      have HT1 := Lib.hid (heldT1 wr ⟨x, y, z⟩ 51)
      obtain ⟨x0, x1, x2, _⟩ := HT1.out.1
      go_wp2_with (at_builtin; refine wpList_append_own _ rfl _ _ 47 rfl w.heap.size 51 i0 (.agg #[.int .i64 0, .int .i64 0, .int .i64 0]) 3 24 Try.underlying47 hi hz0 hz1' hz2' rfl (by decide) _ _ _ rfl (World.ownsRow.alloc HOWN.out _) ⟨wr.heap.size, 0, none⟩ 1 1 [.int .i64 x, .int .i64 y, .int .i64 z] rfl rfl ?c1 ?c2 ?c3 ?c4 ?c5 ?_)
      try (case c1 => exact tri_news x0 x1 x2)
      case c2 => simp [Value.oneCell']
      case c3 => unfold maxLen; omega
      case c4 => omega
      case c5 => first | (simp; omega) | omega
      intro v' w5 hown hgrow _
      have HB2 := Lib.hid (HB.out.trans (grown_belowT HOWN.out hsz hgrow))
      have HO2 := Lib.hid (Tps.more (xs := colM table (cols.take m)) (u := ⟨x, y, z⟩) (by rw [hll]; exact hown)); clear hown hgrow
      clear x0 x1 x2
      go_wp2_with fail
      exact ⟨⟨m + 1, by omega, by go_num, by rw [HTK.out]; exact HO2.out, HB2.out⟩, by simp [intOf]; omega⟩
    · obtain rfl : m = cols.length := by omega
      rw [List.take_length] at HOWN
      go_wp2_with fail
      go_ret2
      refine ⟨_, by rw [HO.out]; rfl, ?_, HB.out⟩
      rw [HT.out]
      exact HOWN.out

set_option maxRecDepth 100000 in
theorem specColor (cols : List Int) (table : List Tr) (vc vt : Value) (w : World) (hc : Seq w vc cols) (ht : Trs w vt table) (hl1 : cols.length ≤ 1048576) (hl2 : table.length ≤ 1048576) :
    Calls Try.prog 37 #[vc, vt] w (TpsOk 51 (colT cols table) (colOk cols table) w) := by
  obtain ⟨i0, hi, hz0, hz1, hz2⟩ := info_parts infoStain
  have HI := Lib.hid (And.intro hi (And.intro hz0 (And.intro hz1 hz2))); clear hi hz0 hz1 hz2
  have HC := Lib.hid hc
  have HV := Lib.hid ht
  obtain ⟨A, c, rfl⟩ := seq_form2 hc
  obtain ⟨A2, c2, rfl⟩ := ht.form2
  clear hc ht
  have HT := Lib.hid (show colT cols table = if (stsB table && inR cols 0 ((table.length : Int) - 1)) = true then colM table cols else [] from rfl)
  have HO := Lib.hid (show colOk cols table = (stsB table && inR cols 0 ((table.length : Int) - 1)) from rfl)
  have HSN := Lib.hid (fun k (hk : k < table.length) h => stsB_no hk h)
  have HSY := Lib.hid (fun h => stsB_yes (xs := table) h)
  have HRN := Lib.hid (fun k (hk : k < cols.length) (h : inB (atZ cols k) 0 ((table.length : Int) - 1) = false) => inR_no hk h)
  have HRY := Lib.hid (fun (h : ∀ k, k < cols.length → inB (atZ cols k) 0 ((table.length : Int) - 1) = true) => inR_yes h)
  have HIB := Lib.hid (fun q => inB_iff q 0 ((table.length : Int) - 1))
  generalize colT cols table = res at *
  generalize colOk cols table = ok at *
  generalize stsB table = d1 at *
  generalize inR cols 0 ((table.length : Int) - 1) = d2 at *
  go_enter Try.func37, Try.ntmps37
  go_wp2_with fail
  go_loopw [6] (fun i wr => ∃ k : Nat, k ≤ table.length ∧ i = .int .i64 k ∧ (∀ j, j < k → stainB (atT table j) = true) ∧ Below w.heap.size w wr) (fun i _ => table.length - (intOf i).toNat)
  case atStart => exact ⟨0, Nat.zero_le _, rfl, fun j hj => by omega, Below.refl _ _⟩
  case round =>
    obtain ⟨k, hk, rfl, ha, hb⟩ := hrel
    have HA := Lib.hid ha; clear ha
    have HB := Lib.hid hb; clear hb
    have hsz := HB.out.size
    by_cases hlt : k < table.length
    · obtain ⟨_, _, he, _, _, hcs⟩ := (HV.out.step HB.out).form
      injection he with he1 he2 he3
      obtain ⟨b, o, hA, hbl, hc0, hc1, hc2⟩ := hcs k hlt
      rw [← he1] at hA
      subst hA
      clear he1 he2 he3 hcs
      have HS := Lib.hid (specStainOk (atT table k))
      have HN := Lib.hid (HSN.out k hlt)
      have HNX := Lib.hid (fun (h : stainB (atT table k) = true) => (fun j (hj : j < k + 1) => (if e : j = k then e ▸ h else HA.out j (by omega)) : ∀ j, j < k + 1 → stainB (atT table j) = true))
      have hz1 : (k : Int) < (table.length : Int) := by omega
      have hz2 : (0 : Int) ≤ k := by omega
      generalize stainB (atT table k) = d at *
      generalize atT table k = t at *
      obtain ⟨x, y, z⟩ := t
      unfold Tr.val at HS
      simp only at HS hc0 hc1 hc2
      cases d
      · go_wp2_with fail
        refine (HS.out _).mono ?_
        rintro e w1 ⟨rfl, hb1⟩
        have HB1 := Lib.hid (HB.out.trans (hb1.mono hsz)); clear hb1
        have hsz1 := HB1.out.size
        go_wp2_with fail
        go_ret2
        obtain rfl := HN.out trivial
        refine ⟨_, by rw [HO.out]; rfl, ?_, HB1.out.alloc hsz1 _⟩
        rw [HT.out]
        exact Tps.made _ _ _ _ rfl hsz1
      · go_wp2_with fail
        refine (HS.out _).mono ?_
        rintro e w1 ⟨rfl, hb1⟩
        have HB1 := Lib.hid (HB.out.trans (hb1.mono hsz)); clear hb1
        go_wp2_with fail
        exact ⟨⟨k + 1, by omega, by go_num, HNX.out trivial, HB1.out⟩, by simp [intOf]; omega⟩
    · obtain rfl : k = table.length := by omega
      obtain rfl := HSY.out HA.out
      go_wp2_with fail
      go_loopw [7, 8] (fun v i wr => ∃ m : Nat, m ≤ cols.length ∧ i = .int .i64 m ∧ (∀ j, j < m → inB (atZ cols j) 0 ((table.length : Int) - 1) = true) ∧ Tps wr w.heap.size 51 v (colM table (cols.take m)) ∧ Below w.heap.size w wr) (fun _ i _ => cols.length - (intOf i).toNat)
      case atStart => exact ⟨0, Nat.zero_le _, rfl, fun j hj => by omega, Tps.made _ _ _ _ rfl hsz, HB.out.alloc hsz _⟩
      case round =>
        clear HB hsz HA
        obtain ⟨m, hm, rfl, ha, hown, hb⟩ := hrel
        have HA := Lib.hid ha; clear ha
        have HOWN := Lib.hid hown; clear hown
        have HB := Lib.hid hb; clear hb
        have hsz := HB.out.size
        by_cases hlt : m < cols.length
        · obtain ⟨_, _, he, _, _, hcs⟩ := (HC.out.step HB.out).form
          injection he with he1 he2 he3
          obtain ⟨b, o, hA, hbl, hc0⟩ := hcs m hlt
          rw [← he1] at hA
          subst hA
          clear he1 he2 he3 hcs
          have HTK := Lib.hid (colM_take table hlt)
          have hll : (colM table (cols.take m)).length = m := by rw [colM_len, List.length_take]; omega
          have HN := Lib.hid (HRN.out m hlt)
          have HNX := Lib.hid (fun (h : inB (atZ cols m) 0 ((table.length : Int) - 1) = true) => (fun j (hj : j < m + 1) => (if e : j = m then e ▸ h else HA.out j (by omega)) : ∀ j, j < m + 1 → inB (atZ cols j) 0 ((table.length : Int) - 1) = true))
          have HS := Lib.hid (fun w => specInB (atZ cols m) 0 ((table.length : Int) - 1) w)
          have HQ := Lib.hid (HIB.out (atZ cols m))
          have hz1 : (m : Int) < (cols.length : Int) := by omega
          have hz2 : (0 : Int) ≤ m := by omega
          generalize inB (atZ cols m) 0 ((table.length : Int) - 1) = d at *
          generalize atZ cols m = q at *
          cases d
          · go_wp2_with fail
            refine (HS.out _).mono ?_
            rintro e w1 ⟨rfl, hb1⟩
            have HB1 := Lib.hid (HB.out.trans (hb1.mono hsz)); clear hb1
            have hsz1 := HB1.out.size
            go_wp2_with fail
            go_ret2
            obtain rfl := HN.out trivial
            refine ⟨_, by rw [HO.out]; rfl, ?_, HB1.out.alloc hsz1 _⟩
            rw [HT.out]
            exact Tps.made _ _ _ _ rfl hsz1
          · obtain ⟨ha1, ha2⟩ := HQ.out.1 rfl
            obtain ⟨j, rfl⟩ : ∃ j : Nat, q = j := ⟨q.toNat, by omega⟩
            have hj : j < table.length := by omega
            rw [Int.toNat_natCast] at HTK
            go_wp2_with fail
            refine (HS.out _).mono ?_
            rintro e w1 ⟨rfl, hb1⟩
            have HB1 := Lib.hid (HB.out.trans (hb1.mono hsz))
            have HO1 := Lib.hid (HOWN.out.step hb1)
            have hc01 := (hb1.cell (p := ⟨b, o + m, none⟩) hbl).trans hc0
            clear hb1 HB HOWN hsz hc0
            have HB := Lib.hid HB1.out; clear HB1
            have HOWN := Lib.hid HO1.out; clear HO1
            obtain ⟨_, _, he, _, _, hcs⟩ := (HV.out.step HB.out).form
            injection he with he1 he2 he3
            obtain ⟨b2, o2, hA, hbl2, hd0, hd1, hd2⟩ := hcs j hj
            rw [← he1] at hA
            subst hA
            clear he1 he2 he3 hcs
            generalize atT table j = t at *
            obtain ⟨x, y, z⟩ := t
            simp only at hd0 hd1 hd2
            have hz3 : (j : Int) < (table.length : Int) := by omega
            obtain ⟨hi, hz0, hz1', hz2'⟩ := HI.out
            have hsz := HB.out.size
            have HT1 := Lib.hid (heldT1 w1 ⟨x, y, z⟩ 51)
            obtain ⟨x0, x1, x2, _⟩ := HT1.out.1
            go_wp2_with (at_builtin; refine wpList_append_own _ rfl _ _ 47 rfl w.heap.size 51 i0 (.agg #[.int .i64 0, .int .i64 0, .int .i64 0]) 3 24 Try.underlying47 hi hz0 hz1' hz2' rfl (by decide) _ _ _ rfl (World.ownsRow.alloc HOWN.out _) ⟨w1.heap.size, 0, none⟩ 1 1 [.int .i64 x, .int .i64 y, .int .i64 z] rfl rfl ?c1 ?c2 ?c3 ?c4 ?c5 ?_)
            try (case c1 => exact tri_news x0 x1 x2)
            case c2 => simp [Value.oneCell']
            case c3 => unfold maxLen; omega
            case c4 => omega
            case c5 => first | (simp; omega) | omega
            intro v' w5 hown hgrow _
            have HB2 := Lib.hid (HB.out.trans (grown_belowT HOWN.out hsz hgrow))
            have HO2 := Lib.hid (Tps.more (xs := colM table (cols.take m)) (u := ⟨x, y, z⟩) (by rw [hll]; exact hown)); clear hown hgrow
            clear x0 x1 x2
            go_wp2_with fail
            exact ⟨⟨m + 1, by omega, by go_num, HNX.out trivial, by rw [HTK.out]; exact HO2.out, HB2.out⟩, by simp [intOf]; omega⟩
        · obtain rfl : m = cols.length := by omega
          rw [List.take_length] at HOWN
          obtain rfl := HRY.out HA.out
          go_wp2_with fail
          go_ret2
          refine ⟨_, by rw [HO.out]; rfl, ?_, HB.out⟩
          rw [HT.out]
          exact HOWN.out
end Go.Proofs.Ytfckgidilbjokac
