/-
  What SplitFields of the program returns.
-/
import Derived.Test.YtejjeihikmipdaaDoorBase
import Derived.Test.YtejjeihikmipdaaDoorSplP
import Derived.Test.YtejjeihikmipdaaDoorShelf
import Derived.LoopTactic
import Derived.Outline
import Derived.Shelf.Strconv.Clone
import Derived.WalkSpells
namespace Go.Proofs.YtejjeihikmipdaaDoor
open Go.RowKit
set_option linter.unusedVariables false
set_option linter.unusedSimpArgs false

theorem infoStr : (Tryd.prog.info? 9).map (fun i => (i.zero, i.size, i.bytes)) = some (some (.string ByteArray.empty), 1, 16) := by kernel_rfl

theorem clone_any (s : ByteArray) (w : World) (h : s.size ≤ 600) :
    Calls Tryd.prog 39 #[.string s] w fun e w' => e = .returned (.string s) ∧ Below w.heap.size w w' := by
  have HI := Lib.hid (Any.stringslite_Clone Tryd.laysM316 s w (by omega))
  go_enter Tryd.func39, Tryd.ntmps39
  go_wp2_with fail
  refine HI.out.mono ?_
  rintro e w1 ⟨rfl, hb⟩
  have HB := Lib.hid hb; clear hb
  go_wp2_with fail
  go_ret
  exact ⟨rfl, HB.out⟩

def AppPost (fs : List ByteArray) (B : Nat) (w : World) (en : Ending) (w' : World) : Prop :=
  ∃ v, en = .returned v ∧ Strs 9 B w' v fs ∧ Below B w w'

theorem appendField_none {B : Nat} {w : World} {v : Value} {fs : List ByteArray} (s : ByteArray) (h : Strs 9 B w v fs) (h0 : s.size = 0) :
    Calls Tryd.prog 31 #[v, .string s] w (AppPost fs B w) := by
  have e1 : s.toList = [] := by rw [ByteArray.toList_eq]; exact List.eq_nil_of_length_eq_zero (by simpa using h0)
  have H := Lib.hid h; clear h
  have H0 := Lib.hid h0; clear h0
  go_enter Tryd.func31, Tryd.ntmps31
  go_wp2_with fail
  go_ret
  exact ⟨_, rfl, H.out, Below.refl _ _⟩

theorem appendField_one {B : Nat} {w : World} {v : Value} {fs : List ByteArray} (s : ByteArray) (h : Strs 9 B w v fs) (hB : B ≤ w.heap.size) (hl : fs.length ≤ 1000) (hs : s.size ≤ 600) (h0 : 0 < s.size) :
    Calls Tryd.prog 31 #[v, .string s] w (AppPost (fs ++ [s]) B w) := by
  obtain ⟨i0, hi, hz0, hz1, hz2⟩ := info_parts infoStr
  have e1 : s.toList.isEmpty = false := by
    rw [ByteArray.toList_eq]
    cases hh : s.data.toList with
    | nil => have : s.data.toList.length = 0 := by rw [hh]; rfl
             simp at this; have : s.size = 0 := by simpa using this
             omega
    | cons a b => rfl
  have H := Lib.hid h; clear h
  go_enter Tryd.func31, Tryd.ntmps31
  go_wp2_with fail
  refine (clone_any s w hs).mono ?_
  rintro e w1 ⟨rfl, hb1⟩
  have h1 := H.out.below hb1 (Nat.le_refl _)
  have H1 := Lib.hid h1; clear h1
  have hsz := hb1.size
  have HB1 := Lib.hid (hb1.mono hB); clear hb1
  go_wp2_with (at_builtin; refine wpList_append_own _ rfl _ _ 31 rfl B 9 i0 (.string ByteArray.empty) 1 16 Tryd.underlying31 hi hz0 hz1 hz2 rfl (by decide) _ _ _ rfl (World.ownsRow.alloc H1.out _) ⟨w1.heap.size, 0, none⟩ 1 1 [.string s] rfl rfl ?c1 ?c2 ?c3 ?c4 ?c5 ?_)
  case c1 => exact cell_one_new _ _ _
  case c2 => simp [Value.oneCell']
  case c3 => unfold maxLen; omega
  case c4 => omega
  case c5 => simp; omega
  intro v' w2 hown hgrow _
  have hb2 := (HB1.out.alloc (o := Obj.cells #[Value.string s] 9) (by omega)).grown hgrow (by simp; omega) (fun i e => (World.ownsRow.lt H1.out i e).1)
  have HB2 := Lib.hid hb2; clear hb2 hgrow
  have HOWN := Lib.hid hown; clear hown
  go_wp2_with fail
  go_ret
  refine ⟨v', rfl, ?_, HB2.out⟩
  have := HOWN.out
  unfold Strs
  rw [List.length_append, List.map_append]
  exact this

theorem implSplit_long (s : ByteArray) (w : World) (hs : s.size ≤ maxLen) (h : 600 < s.size) :
    Calls Tryd.prog 16 #[.string s] w (SplitPost 9 s w.heap.size w) := by
  unfold maxLen at hs
  go_enter Tryd.func16, Tryd.ntmps16
  go_wp2_with fail
  go_step3
  go_wp2_with fail
  rw [Exit.noGoto_ret]
  go_ret2
  exact SplitPost.bad rfl (Strs.nil _ _ _) (Below.refl _ _) (fun hl => by have := hl.1; omega)

set_option maxHeartbeats 1000000 in
theorem implSplit_short (s : ByteArray) (w : World) (h : s.size ≤ 600) :
    Calls Tryd.prog 16 #[.string s] w (SplitPost 9 s w.heap.size w) := by
  go_enter Tryd.func16, Tryd.ntmps16
  go_wp2_with fail
  go_step3
  go_wp2_with fail
  go_step3
  go_wp2_with fail
  go_loopw [4, 5, 6, 7] (fun v st i c wr => ∃ (k : Nat), k ≤ s.size ∧ i = .int .i64 k ∧ st = .int .i64 (stB s k) ∧ Strs 9 w.heap.size wr v (stF s k) ∧ Below w.heap.size w wr ∧ Printable s k) (fun _ _ i _ _ => s.size - (intOf i).toNat)
  case atStart => exact ⟨0, Nat.zero_le _, rfl, rfl, World.ownsRow_made _ _ _ (Nat.le_refl _) (by unfold maxLen; omega) rfl, (Below.refl _ _).alloc (Nat.le_refl _) _, fun j hj => by omega⟩
  case round =>
    obtain ⟨k, hk, rfl, rfl, hown, hb, hp⟩ := hrel
    have HOWN := Lib.hid hown; clear hown
    have HB := Lib.hid hb; clear hb
    have HP := Lib.hid hp; clear hp
    have hbs := HB.out.size
    have hsb := stB_le s k
    have hfl := stF_len s k
    by_cases hlt : k < s.size
    · have hc := s[k].toNat_lt
      have ha := at_get s k hlt
      have HA := Lib.hid ha; clear ha
      have nok : (s[k].toNat < 32 ∨ 126 < s[k].toNat) → ¬ LineOk s := fun hx hl => by
        have := hl.2.1 k hlt
        rw [HA.out] at this
        omega
      have NOK := Lib.hid nok; clear nok
      by_cases hbad : s[k].toNat < 32
      · go_wp2_with fail
        go_ret2
        exact SplitPost.bad rfl (Strs.nil _ _ _) HB.out (NOK.out (.inl hbad))
      · by_cases hbad2 : 126 < s[k].toNat
        · go_wp2_with fail
          go_ret2
          exact SplitPost.bad rfl (Strs.nil _ _ _) HB.out (NOK.out (.inr hbad2))
        · have hp1 := HP.out.succ (by rw [HA.out]; omega) (by rw [HA.out]; omega)
          have HP1 := Lib.hid hp1; clear hp1
          by_cases hsp : s[k].toNat = 32
          · have h32 : at' s.data.toList k = 32 := by rw [HA.out]; exact (u8_eq_32 _).2 hsp
            have e1 := stB_space s k h32
            have e2 := stF_space s k h32
            have E1 := Lib.hid e1; clear e1
            have E2 := Lib.hid e2; clear e2 h32
            have hsz : (s.extract (stB s k) k).size = k - stB s k := by rw [ByteArray.size_extract]; omega
            have HSZ := Lib.hid hsz; clear hsz
            generalize stB s k = b at *
            generalize stF s k = fs at *
            have hsp1 : (s[k].toNat : Int) = 32 := by omega
            clear hsp
            by_cases hbk : b < k
            · go_wp2_with fail
              refine (appendField_one _ HOWN.out hbs (by omega) (by rw [HSZ.out]; omega) (by rw [HSZ.out]; omega)).mono ?_
              rintro e w1 ⟨v', rfl, hst, hb1⟩
              have HST := Lib.hid hst; clear hst
              have HB1 := Lib.hid (HB.out.trans hb1); clear hb1
              go_wp2_with fail
              refine ⟨⟨k + 1, by omega, by go_num, by rw [E1.out]; go_num, ?_, HB1.out, HP1.out⟩, by simp [intOf]; omega⟩
              rw [E2.out]
              unfold fieldAt
              rw [if_pos hbk]
              exact HST.out
            · go_wp2_with fail
              refine (appendField_none _ HOWN.out (by rw [HSZ.out]; omega)).mono ?_
              rintro e w1 ⟨v', rfl, hst, hb1⟩
              have HST := Lib.hid hst; clear hst
              have HB1 := Lib.hid (HB.out.trans hb1); clear hb1
              go_wp2_with fail
              refine ⟨⟨k + 1, by omega, by go_num, by rw [E1.out]; go_num, ?_, HB1.out, HP1.out⟩, by simp [intOf]; omega⟩
              rw [E2.out]
              unfold fieldAt
              rw [if_neg hbk, List.append_nil]
              exact HST.out
          · have h32 : at' s.data.toList k ≠ 32 := by rw [HA.out]; exact fun e => hsp ((u8_eq_32 _).1 e)
            have e1 := stB_other s k h32
            have e2 := stF_other s k h32
            have E1 := Lib.hid e1; clear e1
            have E2 := Lib.hid e2; clear e2 h32
            have hsp1 : ((s[k].toNat : Int) == 32) = false := by rw [beq_eq_false_iff_ne]; omega
            clear hsp
            go_wp2_with fail
            exact ⟨⟨k + 1, by omega, by go_num, by rw [E1.out], by rw [E2.out]; exact HOWN.out, HB.out, HP1.out⟩, by simp [intOf]; omega⟩
    · have ek : k = s.size := by omega
      subst ek
      have hsz : (s.extract (stB s s.size) s.size).size = s.size - stB s s.size := by rw [ByteArray.size_extract]; omega
      have HSZ := Lib.hid hsz; clear hsz
      have hff : fieldsOf s = stF s s.size ++ fieldAt s (stB s s.size) s.size := rfl
      have HFF := Lib.hid hff; clear hff
      generalize stB s s.size = b at *
      generalize stF s s.size = fs at *
      have fin : Calls Tryd.prog 31 #[u4, .string (s.extract b s.size)] wr (AppPost (fieldsOf s) w.heap.size wr) := by
        rw [HFF.out]
        unfold fieldAt
        by_cases hbk : b < s.size
        · rw [if_pos hbk]
          exact appendField_one _ HOWN.out hbs (by omega) (by rw [HSZ.out]; omega) (by rw [HSZ.out]; omega)
        · rw [if_neg hbk, List.append_nil]
          exact appendField_none _ HOWN.out (by rw [HSZ.out]; omega)
      have FIN := Lib.hid fin; clear fin
      go_wp2_with fail
      refine FIN.out.mono ?_
      rintro e w1 ⟨v', rfl, hst, hb1⟩
      have HB1 := Lib.hid (HB.out.trans hb1); clear hb1
      obtain ⟨a, cap, rfl, _⟩ := hst.form'
      have HST := Lib.hid hst; clear hst
      by_cases h24 : 24 < (fieldsOf s).length
      · go_wp2_with fail
        go_ret2
        exact SplitPost.bad rfl (Strs.nil _ _ _) HB1.out (fun hl => by have := hl.2.2; omega)
      · go_wp2_with fail
        go_ret2
        exact SplitPost.good rfl HST.out HB1.out ⟨h, HP.out, by omega⟩ rfl
end Go.Proofs.YtejjeihikmipdaaDoor
