/-
  What ParseUint of the program and of the model return.
-/
import Derived.Test.YtejjeihikmipdaaDoorLaid
import Derived.Test.YtejjeihikmipdaaDoorParP
import Derived.Lib.SmallJoins
import Derived.LoopTactic
import Derived.Outline
namespace Go.Proofs.YtejjeihikmipdaaDoor
open Go.RowKit
set_option linter.unusedVariables false
set_option linter.unusedSimpArgs false

theorem ret_val {k : IntKind} {a b : Int} (h : a = b) : Value.int k a = .int k b := by rw [h]
/-- The two errors of strconv are what a row says of them: something that is not nil. -/
def Errs (w : World) : Prop := (∃ tp p, w.var? Tryd.prog "strconv.ErrSyntax" = some #[.iface tp p]) ∧ ∃ tp p, w.var? Tryd.prog "strconv.ErrRange" = some #[.iface tp p]

/-- (n, true) where the text is the decimal text of a number n up to 1000000000; else (0, false). -/
def ParPost (s : ByteArray) (w : World) (e : Ending) (w' : World) : Prop :=
  Below w.heap.size w w' ∧ ((∃ n : Nat, IsNum s.data.toList n ∧ e = .returned (.tuple #[.int .i64 n, .bool true])) ∨ ((∀ n, ¬ IsNum s.data.toList n) ∧ e = .returned (.tuple #[.int .i64 0, .bool false])))

theorem implParse_bad (s : ByteArray) (w : World) (v : Int) (hs : s.size ≤ 1048576) (h : v < 0 ∨ 1000000000 < v) (hA : Lib.atoiAll s.data.toList = .ok v) :
    Calls Tryd.prog 14 #[.string s] w fun e w' => e = .returned (.tuple #[.int .i64 0, .bool false]) ∧ Below w.heap.size w w' := by
  have HI := Lib.hid (Any.strconv_Atoi_ok Tryd.laysC172 s (by omega) v hA w)
  clear hA
  by_cases hv : v < 0
  all_goals
    go_enter Tryd.func14, Tryd.ntmps14
    go_wp2_with fail
    refine HI.out.mono ?_
    rintro e w1 ⟨rfl, hw⟩
    have hb : Below w.heap.size w w1 := by
      rcases hw with rfl | ⟨t, rfl⟩
      · exact Below.refl _ _
      · exact Joins.below_bytesWorld _ _ _ _ (Nat.le_refl _)
    have HB := Lib.hid hb; clear hb hw
    go_wp2_with fail
    go_ret2
    exact ⟨rfl, HB.out⟩

theorem implParse_ok (s : ByteArray) (w : World) (v : Nat) (hs : s.size ≤ 1048576) (h1 : (v : Int) ≤ 1000000000) (hA : Lib.atoiAll s.data.toList = .ok (v : Int)) (ht : Tab w) :
    Calls Tryd.prog 14 #[.string s] w (ParPost s w) := by
  have HI := Lib.hid (Any.strconv_Atoi_ok Tryd.laysC172 s (by omega) v hA w)
  have HA := Lib.hid hA; clear hA
  have HT := Lib.hid ht; clear ht
  by_cases hq : Lib.itoa (v : Int) = s.data.toList
  · have hq1 : (Lib.itoa (v : Int) == s.toList) = true := by
      rw [hq, ByteArray.toList_eq]; simp
    have HQ := Lib.hid hq; clear hq
    go_enter Tryd.func14, Tryd.ntmps14
    go_wp2_with fail
    refine HI.out.mono ?_
    rintro e w1 ⟨rfl, hw⟩
    have hb : Below w.heap.size w w1 := by
      rcases hw with rfl | ⟨t, rfl⟩
      · exact Below.refl _ _
      · exact Joins.below_bytesWorld _ _ _ _ (Nat.le_refl _)
    have HT1 := Lib.hid (tab_below HT.out hb (tab_lt HT.out))
    have HB := Lib.hid hb; clear hb hw
    go_wp2_with fail
    refine (implFormat _ _ (inI64_of (by omega) (by omega)) HT1.out).mono ?_
    rintro e w2 ⟨rfl, hb2⟩
    have HB2 := Lib.hid (HB.out.trans (hb2.mono HB.out.size)); clear hb2
    go_wp2_with fail
    go_ret2
    have := IsNum.of_itoa (by omega) h1 HQ.out
    exact ⟨HB2.out, .inl ⟨v, by simpa using this, rfl⟩⟩
  · have hq1 : (Lib.itoa (v : Int) == s.toList) = false := by
      rw [beq_eq_false_iff_ne, ByteArray.toList_eq]
      exact hq
    have HQ := Lib.hid hq; clear hq
    go_enter Tryd.func14, Tryd.ntmps14
    go_wp2_with fail
    refine HI.out.mono ?_
    rintro e w1 ⟨rfl, hw⟩
    have hb : Below w.heap.size w w1 := by
      rcases hw with rfl | ⟨t, rfl⟩
      · exact Below.refl _ _
      · exact Joins.below_bytesWorld _ _ _ _ (Nat.le_refl _)
    have HT1 := Lib.hid (tab_below HT.out hb (tab_lt HT.out))
    have HB := Lib.hid hb; clear hb hw
    go_wp2_with fail
    refine (implFormat _ _ (inI64_of (by omega) (by omega)) HT1.out).mono ?_
    rintro e w2 ⟨rfl, hb2⟩
    have HB2 := Lib.hid (HB.out.trans (hb2.mono HB.out.size)); clear hb2
    go_wp2_with fail
    go_ret2
    refine ⟨HB2.out, .inr ⟨fun n hn => HQ.out ?_, rfl⟩⟩
    have e1 := hn.atoi.symm.trans HA.out
    have e2 : (n : Int) = (v : Int) := by simpa using e1
    rw [← e2, Lib.itoa_nonneg]
    exact hn.2

theorem implParse_err (s : ByteArray) (w : World) (tp : TypeId) (p : Value) (N : Nat) (n : Int)
    (hc : Calls Tryd.prog 29 #[.string s] w fun e w' => ∃ N, e = .returned (.tuple #[.int .i64 n, .iface 63 (.pointer (some ⟨N, 0, none⟩))]) ∧ Below w.heap.size w w') :
    Calls Tryd.prog 14 #[.string s] w fun e w' => e = .returned (.tuple #[.int .i64 0, .bool false]) ∧ Below w.heap.size w w' := by
  have HI := Lib.hid hc; clear hc
  go_enter Tryd.func14, Tryd.ntmps14
  go_wp2_with fail
  refine HI.out.mono ?_
  rintro e w1 ⟨M, rfl, hb⟩
  have HB := Lib.hid hb; clear hb
  go_wp2_with fail
  go_ret2
  exact ⟨rfl, HB.out⟩

theorem implParse (s : ByteArray) (w : World) (hs : s.size ≤ 1048576) (ht : Tab w) (hE : Errs w) :
    Calls Tryd.prog 14 #[.string s] w (ParPost s w) := by
  obtain ⟨⟨tp, p, h1⟩, ⟨tq, q, h2⟩⟩ := hE
  rcases hA : Lib.atoiAll s.data.toList with v | _ | _
  · by_cases hv : v < 0 ∨ 1000000000 < v
    · refine (implParse_bad s w v hs hv hA).mono fun e w' ⟨he, hb⟩ => ⟨hb, .inr ⟨fun n hn => ?_, he⟩⟩
      have e1 := hn.atoi.symm.trans hA
      have e2 : (n : Int) = v := by simpa using e1
      have := hn.1
      omega
    · obtain ⟨m, rfl⟩ := Int.eq_ofNat_of_zero_le (show 0 ≤ v by omega)
      exact implParse_ok s w m hs (by omega) hA ht
  · refine (implParse_err s w tp p 0 0 ((Any.strconv_Atoi_syntax_var Tryd.laysC172 s (by omega) hA tp p w h1).mono fun e w' ⟨N, he, _, _, hb⟩ => ⟨N, he, hb⟩)).mono fun e w' ⟨he, hb⟩ => ⟨hb, .inr ⟨fun n hn => ?_, he⟩⟩
    have e1 := hn.atoi.symm.trans hA
    simp at e1
  · refine (implParse_err s w tp p 0 _ ((Any.strconv_Atoi_range_var Tryd.laysC172 s (by omega) hA tq q w h2).mono fun e w' ⟨N, he, _, _, hb⟩ => ⟨N, he, hb⟩)).mono fun e w' ⟨he, hb⟩ => ⟨hb, .inr ⟨fun n hn => ?_, he⟩⟩
    have e1 := hn.atoi.symm.trans hA
    simp at e1

theorem specParse_long (s : ByteArray) (w : World) (hs : s.size ≤ maxLen) (h : 10 < s.size) :
    Calls Tryd.prog 20 #[.string s] w (ParPost s w) := by
  unfold maxLen at hs
  go_enter Tryd.func20, Tryd.ntmps20
  go_wp2_with fail
  go_ret2
  refine ⟨Below.refl _ _, .inr ⟨fun n hn => ?_, rfl⟩⟩
  have := hn.length
  simp at this
  omega

set_option maxHeartbeats 400000 in
theorem specParse_short (s : ByteArray) (w : World) (h : s.size ≤ 10) :
    Calls Tryd.prog 20 #[.string s] w (ParPost s w) := by
  go_enter Tryd.func20, Tryd.ntmps20
  go_wp2_with fail
  go_loop [4, 5] (fun n i => ∃ k m : Nat, k ≤ s.size ∧ i = .int .i64 k ∧ n = .int .i64 m ∧ Lib.decFrom 0 (s.data.toList.take k) = some m) (fun _ i => s.size - (intOf i).toNat)
  case atStart => exact ⟨0, 0, Nat.zero_le _, rfl, rfl, rfl⟩
  case round =>
    obtain ⟨k, m, hk, rfl, rfl, hd⟩ := hrel
    have hm : m < 10000000000 := by
      have h1 := Lib.decFrom_lt _ _ _ hd
      have h2 : (s.data.toList.take k).length ≤ 10 := by rw [List.length_take]; simp; omega
      have h3 : 10 ^ (s.data.toList.take k).length ≤ 10 ^ 10 := Nat.pow_le_pow_right (by omega) h2
      omega
    have HD := Lib.hid hd; clear hd
    by_cases hlt : k < s.size
    · have hc := s[k].toNat_lt
      have hg : s.data.toList[k]? = some s[k] := by simp [Array.getElem?_eq_getElem (show k < s.data.size from hlt)]; rfl
      have HG := Lib.hid hg; clear hg
      have bad : Lib.digitVal s[k] = none → ∀ n, ¬ IsNum s.data.toList n := by
        intro hv n hn
        obtain ⟨r, hr⟩ := Lib.decFrom_prefix _ _ _ hn.dec (k + 1)
        rw [List.take_succ_eq_append_getElem (by simpa using hlt), decFrom_snoc, HD.out] at hr
        have e : s.data.toList[k]'(by simpa using hlt) = s[k] := rfl
        rw [e, hv] at hr
        simp at hr
      have HBAD := Lib.hid bad; clear bad
      by_cases h1 : s[k].toNat < 48
      · go_wp2_with fail
        go_ret2
        exact ⟨Below.refl _ _, .inr ⟨HBAD.out (by unfold Lib.digitVal; rw [if_neg (by omega)]), rfl⟩⟩
      · by_cases h2 : 57 < s[k].toNat
        · go_wp2_with fail
          go_ret2
          exact ⟨Below.refl _ _, .inr ⟨HBAD.out (by unfold Lib.digitVal; rw [if_neg (by omega)]), rfl⟩⟩
        · go_wp2_with fail
          go_round
          case rel => exact ⟨k + 1, m * 10 + (s[k].toNat - 48), by omega, by go_num, ret_val (by omega), Lib.decFrom_take _ k 0 m s[k] (s[k].toNat - 48) HD.out HG.out (by unfold Lib.digitVal; rw [if_pos (by omega)])⟩
          case measure => simp [intOf]; omega
    · have e1 : s.data.toList.take k = s.data.toList := List.take_of_length_le (by simp; omega)
      have hd1 : Lib.decFrom 0 s.data.toList = some m := by rw [← e1]; exact HD.out
      have HD1 := Lib.hid hd1; clear hd1 e1
      by_cases hb : 1000000000 < m
      · go_wp2_with fail
        go_ret2
        refine ⟨Below.refl _ _, .inr ⟨fun n hn => ?_, rfl⟩⟩
        have e2 := hn.dec.symm.trans HD1.out
        have e3 : n = m := by simpa using e2
        have := hn.1
        omega
      · by_cases hq : Lib.itoa (m : Int) = s.data.toList
        · have hq1 : (Lib.itoa (m : Int) == s.toList) = true := by rw [hq, ByteArray.toList_eq]; simp
          have HQ := Lib.hid hq; clear hq
          go_wp2_with fail
          refine (specFormat _ _ (inI64_of (by omega) (by omega))).mono ?_
          rintro e w1 ⟨rfl, hb1⟩
          have HB1 := Lib.hid hb1; clear hb1
          go_wp2_with fail
          go_ret2
          refine ⟨HB1.out, .inl ⟨m, ?_, rfl⟩⟩
          have := IsNum.of_itoa (by omega) (by omega) HQ.out
          simpa using this
        · have hq1 : (Lib.itoa (m : Int) == s.toList) = false := by rw [beq_eq_false_iff_ne, ByteArray.toList_eq]; exact hq
          have HQ := Lib.hid hq; clear hq
          go_wp2_with fail
          refine (specFormat _ _ (inI64_of (by omega) (by omega))).mono ?_
          rintro e w1 ⟨rfl, hb1⟩
          have HB1 := Lib.hid hb1; clear hb1
          go_wp2_with fail
          go_ret2
          refine ⟨HB1.out, .inr ⟨fun n hn => HQ.out ?_, rfl⟩⟩
          have e2 := hn.dec.symm.trans HD1.out
          have e3 : n = m := by simpa using e2
          rw [← e3, Lib.itoa_nonneg]
          exact hn.2

theorem gES : Tryd.prog.globalNamed "strconv.ErrSyntax" = some 1 := by kernel_rfl
theorem gESType : (Tryd.prog.globals[1]?).map (·.type) = some 47 := by kernel_rfl
theorem gER : Tryd.prog.globalNamed "strconv.ErrRange" = some 2 := by kernel_rfl
theorem gERType : (Tryd.prog.globals[2]?).map (·.type) = some 47 := by kernel_rfl
theorem cellsES : Tryd.prog.cellsOf 87 = 1 := by kernel_rfl
theorem cellsStr : Tryd.prog.cellsOf 9 = 1 := by kernel_rfl
theorem starES : "*" ++ "errors.errorString" = "*errors.errorString" := by decide
theorem rowES (u : TypeId) (h : Tryd.prog.typeName? 3 u = some "*errors.errorString") : u = 85 :=
  typeName_ptr_named (nm := "errors.errorString") (by rw [starES]; kernel_rfl) (by kernel_rfl) (by decide) u (by rw [starES]; exact h)
def keepES (x : String × DataW Unit) : Bool := x.1 == "strconv.ErrSyntax"
def keepER (x : String × DataW Unit) : Bool := x.1 == "strconv.ErrRange"
theorem errs_of {l : List (String × DataW Unit)} {W : World} (h : laidMetH Tryd.prog l W) (h1 : l.filter keepES = [("strconv.ErrSyntax", Rows.laid_strconv_ErrSyntax)]) (h2 : l.filter keepER = [("strconv.ErrRange", Rows.laid_strconv_ErrRange)]) : Errs W := by
  have a := h.filter keepES
  have b := h.filter keepER
  rw [h1] at a
  rw [h2] at b
  obtain ⟨a0, s0, hv0, -, -, -⟩ := laid_sentinel (r := []) a gES gESType Tryd.underlying47 rowES Tryd.underlying85 Tryd.underlying87 rfl rfl Tryd.underlying9 cellsES cellsStr
  obtain ⟨a1, s1, hv1, -, -, -⟩ := laid_sentinel (r := []) b gER gERType Tryd.underlying47 rowES Tryd.underlying85 Tryd.underlying87 rfl rfl Tryd.underlying9 cellsES cellsStr
  exact ⟨⟨_, _, hv0⟩, ⟨_, _, hv1⟩⟩
theorem errs_below {W W' : World} (h : Errs W) (hb : Below W.heap.size W W') : Errs W' := by
  obtain ⟨⟨tp, p, h1⟩, ⟨tq, q, h2⟩⟩ := h
  have c1 : W.cell? ⟨1, 0, none⟩ = some (.iface tp p) := by simpa using World.var?_cell gES h1 0
  have c2 : W.cell? ⟨2, 0, none⟩ = some (.iface tq q) := by simpa using World.var?_cell gER h2 0
  exact ⟨⟨tp, p, var?_below hb gES (World.block_lt_of_cell? W _ c1) h1⟩, ⟨tq, q, var?_below hb gER (World.block_lt_of_cell? W _ c2) h2⟩⟩
end Go.Proofs.YtejjeihikmipdaaDoor
