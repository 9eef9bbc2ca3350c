/-
  What SplitFields of the model returns.
-/
import Derived.Test.YtejjeihikmipdaaDoorSplI
namespace Go.Proofs.YtejjeihikmipdaaDoor
open Go.RowKit
set_option linter.unusedVariables false
set_option linter.unusedSimpArgs false

theorem specSplit_long (s : ByteArray) (w : World) (hs : s.size ≤ maxLen) (h : 600 < s.size) :
    Calls Tryd.prog 17 #[.string s] w (SplitPost 9 s w.heap.size w) := by
  unfold maxLen at hs
  go_enter Tryd.func17, Tryd.ntmps17
  go_wp2_with fail
  go_ret2
  exact SplitPost.bad rfl (World.ownsRow_made _ _ _ (Nat.le_refl _) (by unfold maxLen; omega) rfl) ((Below.refl _ _).alloc (Nat.le_refl _) _) (fun hl => by have := hl.1; omega)

/-- The field that reaches to k is appended, if there is one. -/
theorem add_field {B : Nat} {s : ByteArray} {w1 w2 : World} {v v' : Value} {fs : List ByteArray} {b k : Nat} (hbk : b < k) (h : w2.ownsRow B 9 1 v' (fs.length + 1) (fs.map Value.string ++ [.string (s.extract b k)])) :
    Strs 9 B w2 v' (fs ++ fieldAt s b k) := by
  unfold fieldAt
  rw [if_pos hbk]
  unfold Strs
  rw [List.length_append, List.map_append]
  exact h

set_option maxHeartbeats 1000000 in
theorem specSplit_short (s : ByteArray) (w : World) (h : s.size ≤ 600) :
    Calls Tryd.prog 17 #[.string s] w (SplitPost 9 s w.heap.size w) := by
  obtain ⟨i0, hi, hz0, hz1, hz2⟩ := info_parts infoStr
  go_enter Tryd.func17, Tryd.ntmps17
  go_wp2_with fail
  go_loopw [4, 5, 6] (fun v st i wr => ∃ (k b : Nat) (fs : List ByteArray), i = .int .i64 k ∧ st = .int .i64 b ∧ b ≤ k ∧ fs.length ≤ k ∧ Strs 9 w.heap.size wr v fs ∧ Below w.heap.size w wr ∧ Printable s (min k s.size) ∧ ((k ≤ s.size ∧ b = stB s k ∧ fs = stF s k) ∨ (k = s.size + 1 ∧ fs = fieldsOf s))) (fun _ _ i _ => s.size + 1 - (intOf i).toNat)
  case atStart => exact ⟨0, 0, [], rfl, rfl, Nat.le_refl _, Nat.le_refl _, World.ownsRow_made _ _ _ (Nat.le_refl _) (by unfold maxLen; omega) rfl, (Below.refl _ _).alloc (Nat.le_refl _) _, fun j hj => by omega, .inl ⟨Nat.zero_le _, rfl, rfl⟩⟩
  case round =>
    obtain ⟨k, b, fs, rfl, rfl, hbk0, hfl, hown, hb, hp, hst⟩ := hrel
    have HOWN := Lib.hid hown; clear hown
    have HB := Lib.hid hb; clear hb
    have HP := Lib.hid hp; clear hp
    have HST := Lib.hid hst
    have hbs := HB.out.size
    have hk : k ≤ s.size + 1 := by rcases hst with h1 | h1 <;> omega
    clear hst
    by_cases hlt : k < s.size
    · have hc := s[k].toNat_lt
      have ha := at_get s k hlt
      have HA := Lib.hid ha; clear ha
      obtain ⟨hb0, hf0⟩ : b = stB s k ∧ fs = stF s k := by
        rcases HST.out with ⟨_, h1, h2⟩ | ⟨h1, _⟩
        · exact ⟨h1, h2⟩
        · omega
      have HB0 := Lib.hid hb0; clear hb0
      have HF0 := Lib.hid hf0; clear hf0
      have nok : (s[k].toNat < 32 ∨ 126 < s[k].toNat) → ¬ LineOk s := fun hx hl => by
        have := hl.2.1 k hlt
        rw [HA.out] at this
        omega
      have NOK := Lib.hid nok; clear nok
      by_cases hbad : s[k].toNat < 32
      · go_wp2_with fail
        go_ret2
        exact SplitPost.bad rfl (World.ownsRow_made _ _ _ hbs (by unfold maxLen; omega) rfl) (HB.out.alloc hbs _) (NOK.out (.inl hbad))
      · by_cases hbad2 : 126 < s[k].toNat
        · go_wp2_with fail
          go_ret2
          exact SplitPost.bad rfl (World.ownsRow_made _ _ _ hbs (by unfold maxLen; omega) rfl) (HB.out.alloc hbs _) (NOK.out (.inr hbad2))
        · have hp1 : Printable s (min (k + 1) s.size) := by
            have e1 : min (k + 1) s.size = k + 1 := by omega
            have e2 : min k s.size = k := by omega
            have a := HP.out
            rw [e2] at a
            rw [e1]
            exact a.succ (by rw [HA.out]; omega) (by rw [HA.out]; omega)
          have HP1 := Lib.hid hp1; clear hp1
          by_cases hsp : s[k].toNat = 32
          · have h32 : at' s.data.toList k = 32 := by rw [HA.out]; exact (u8_eq_32 _).2 hsp
            have e1 := stB_space s k h32
            have e2 := stF_space s k h32
            rw [← HB0.out, ← HF0.out] at e2
            have E1 := Lib.hid e1; clear e1
            have E2 := Lib.hid e2; clear e2 h32
            have hsp1 : (s[k].toNat : Int) = 32 := by omega
            clear hsp
            by_cases hbk : b < k
            · go_wp2_with (at_builtin; refine wpList_append_own _ rfl _ _ 31 rfl w.heap.size 9 i0 (.string ByteArray.empty) 1 16 Tryd.underlying31 hi hz0 hz1 hz2 rfl (by decide) _ _ _ rfl (World.ownsRow.alloc HOWN.out _) ⟨wr.heap.size, 0, none⟩ 1 1 [.string (s.extract b k)] rfl rfl ?c1 ?c2 ?c3 ?c4 ?c5 ?_)
              case c1 => exact cell_one_new _ _ _
              case c2 => simp [Value.oneCell']
              case c3 => unfold maxLen; omega
              case c4 => omega
              case c5 => simp; omega
              intro v' w2 hown2 hgrow _
              have hb2 := (HB.out.alloc (o := Obj.cells #[Value.string (s.extract b k)] 9) hbs).grown hgrow (by simp; omega) (fun i e => (World.ownsRow.lt HOWN.out i e).1)
              have HB2 := Lib.hid hb2; clear hb2 hgrow
              have HOWN2 := Lib.hid (add_field (w1 := w2) (v := v') hbk hown2); clear hown2
              have hl2 : (fs ++ fieldAt s b k).length ≤ k + 1 := by have := fieldAt_len s b k; rw [List.length_append]; omega
              go_wp2_with fail
              exact ⟨⟨k + 1, k + 1, fs ++ fieldAt s b k, by go_num, by go_num, Nat.le_refl _, hl2, HOWN2.out, HB2.out, HP1.out, .inl ⟨by omega, by rw [E1.out], E2.out.symm⟩⟩, by simp [intOf]; omega⟩
            · have e3 : fieldAt s b k = [] := by unfold fieldAt; rw [if_neg hbk]
              have E3 := Lib.hid e3; clear e3
              go_wp2_with fail
              exact ⟨⟨k + 1, k + 1, fs, by go_num, by go_num, Nat.le_refl _, by omega, HOWN.out, HB.out, HP1.out, .inl ⟨by omega, by rw [E1.out], by rw [E2.out, E3.out, List.append_nil]⟩⟩, by simp [intOf]; omega⟩
          · have h32 : at' s.data.toList k ≠ 32 := by rw [HA.out]; exact fun e => hsp ((u8_eq_32 _).1 e)
            have e1 := stB_other s k h32
            have e2 := stF_other s k h32
            have E1 := Lib.hid e1; clear e1
            have E2 := Lib.hid e2; clear e2 h32
            have hsp1 : ((s[k].toNat : Int) == 32) = false := by rw [beq_eq_false_iff_ne]; omega
            clear hsp
            go_wp2_with fail
            exact ⟨⟨k + 1, b, fs, by go_num, rfl, by omega, by omega, HOWN.out, HB.out, HP1.out, .inl ⟨by omega, by rw [E1.out, HB0.out], by rw [E2.out, HF0.out]⟩⟩, by simp [intOf]; omega⟩
    · by_cases hk1 : k = s.size
      · obtain ⟨hb0, hf0⟩ : b = stB s k ∧ fs = stF s k := by
          rcases HST.out with ⟨_, h1, h2⟩ | ⟨h1, _⟩
          · exact ⟨h1, h2⟩
          · omega
        clear HST
        subst hk1
        have hff : fieldsOf s = fs ++ fieldAt s b s.size := by unfold fieldsOf; rw [hb0, hf0]
        have HFF := Lib.hid hff; clear hff hb0 hf0
        have hp1 : Printable s (min (s.size + 1) s.size) := by
          have a := HP.out
          have e2 : min (s.size + 1) s.size = min s.size s.size := by omega
          rw [e2]; exact a
        have HP1 := Lib.hid hp1; clear hp1
        by_cases hbk : b < s.size
        · go_wp2_with (at_builtin; refine wpList_append_own _ rfl _ _ 31 rfl w.heap.size 9 i0 (.string ByteArray.empty) 1 16 Tryd.underlying31 hi hz0 hz1 hz2 rfl (by decide) _ _ _ rfl (World.ownsRow.alloc HOWN.out _) ⟨wr.heap.size, 0, none⟩ 1 1 [.string (s.extract b s.size)] rfl rfl ?c1 ?c2 ?c3 ?c4 ?c5 ?_)
          case c1 => exact cell_one_new _ _ _
          case c2 => simp [Value.oneCell']
          case c3 => unfold maxLen; omega
          case c4 => omega
          case c5 => simp; omega
          intro v' w2 hown2 hgrow _
          have hb2 := (HB.out.alloc (o := Obj.cells #[Value.string (s.extract b s.size)] 9) hbs).grown hgrow (by simp; omega) (fun i e => (World.ownsRow.lt HOWN.out i e).1)
          have HB2 := Lib.hid hb2; clear hb2 hgrow
          have HOWN2 := Lib.hid (add_field (w1 := w2) (v := v') hbk hown2); clear hown2
          have hl2 : (fs ++ fieldAt s b s.size).length ≤ s.size + 1 := by have := fieldAt_len s b s.size; rw [List.length_append]; omega
          go_wp2_with fail
          exact ⟨⟨s.size + 1, s.size + 1, fs ++ fieldAt s b s.size, by go_num, by go_num, Nat.le_refl _, hl2, HOWN2.out, HB2.out, HP1.out, .inr ⟨rfl, HFF.out.symm⟩⟩, by simp [intOf]⟩
        · have e3 : fieldAt s b s.size = [] := by unfold fieldAt; rw [if_neg hbk]
          have E3 := Lib.hid e3; clear e3
          go_wp2_with fail
          exact ⟨⟨s.size + 1, s.size + 1, fs, by go_num, by go_num, Nat.le_refl _, by omega, HOWN.out, HB.out, HP1.out, .inr ⟨rfl, by rw [HFF.out, E3.out, List.append_nil]⟩⟩, by simp [intOf]⟩
      · obtain ⟨hk2, hf0⟩ : k = s.size + 1 ∧ fs = fieldsOf s := by
          rcases HST.out with ⟨h1, _, _⟩ | h1
          · omega
          · exact h1
        clear HST
        subst hk2
        have hp2 : Printable s s.size := by
          have a := HP.out
          have e2 : min (s.size + 1) s.size = s.size := by omega
          rw [e2] at a; exact a
        have HP2 := Lib.hid hp2; clear hp2
        obtain ⟨a, cap, rfl, _⟩ := HOWN.out.form'
        have HF0 := Lib.hid hf0; clear hf0
        by_cases h24 : 24 < fs.length
        · go_wp2_with fail
          go_ret2
          exact SplitPost.bad rfl (World.ownsRow_made _ _ _ hbs (by unfold maxLen; omega) rfl) (HB.out.alloc hbs _) (fun hl => by have := hl.2.2; rw [← HF0.out] at this; omega)
        · go_wp2_with fail
          go_ret2
          exact SplitPost.good rfl HOWN.out HB.out ⟨h, HP2.out, by rw [← HF0.out]; omega⟩ HF0.out
end Go.Proofs.YtejjeihikmipdaaDoor
