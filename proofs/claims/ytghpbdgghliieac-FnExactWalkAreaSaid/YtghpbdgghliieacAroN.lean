/-
  AroundNode, of the model and of the program.
-/
import Derived.Test.YtghpbdgghliieacAroI
import Derived.Test.YtghpbdgghliieacLAt
namespace Go.Proofs.Ytghpbdgghliieac
open Go.RowKit
set_option linter.unusedVariables false
set_option linter.unusedSimpArgs false

theorem aro_sort (ns ls : List Nd) (k : Nat) : ∀ n, aroL ns ls k n = sortL (ltD ns ls k) (fromL ls k n)
  | 0 => rfl
  | n + 1 => by
    have ih := aro_sort ns ls k n
    have e : fromL ls k (n + 1) = if decide (dF ls n = k) = true then fromL ls k n ++ [(n : Int)] else fromL ls k n := rfl
    rw [aroL, e, ih]
    by_cases h : dF ls n = k
    · rw [if_pos h, if_pos (decide_eq_true h), sortL_more]
    · rw [if_neg h, if_neg (by simpa using h)]
theorem cell_first (w : World) (x : Value) (T : TypeId) : (w.alloc (.cells #[x] T)).cell? ⟨w.heap.size, 0, none⟩ = some x := by rw [cell_of_cells (heap_alloc_new w _)]; rfl
theorem Ints.owned {w : World} {B k : Nat} {v : Value} {xs : List Int} (h : Ints w B v xs) (hk : v.ownBlock = some k) : ∃ c, v = .slice (some ⟨k, 0, none⟩) xs.length c := by
  rcases h.2 with ⟨rfl, _⟩ | ⟨g, cap, cur, rfl, _⟩
  · cases hk
  · have : g = k := by simpa [Value.ownBlock] using hk
    subst this
    exact ⟨cap, rfl⟩
theorem held_around (w : World) (vn vl vf : Value) (k : Int) (T U V : TypeId) : Held w (((w.alloc (.cells #[vn, vl] T)).alloc (.cells #[.int .i64 k] U)).alloc (.cells #[vf] V)) [(w.heap.size, 0, vn), (w.heap.size, 1, vl), (w.heap.size + 2, 0, vf), (w.heap.size + 1, 0, .int .i64 k)] :=
  ((((Held.none_ w).new2 w.heap.size rfl [vn, vl] T).new2 (w.heap.size + 1) (by simp) [.int .i64 k] U).new2 (w.heap.size + 2) (by simp) [vf] V).only (fun ⟨a, b, c, d, _⟩ => ⟨c, d, a, b, trivial⟩) (fun ⟨a, b, c, d, _⟩ => ⟨c, d, a, b, trivial⟩)

set_option maxRecDepth 100000 in
set_option maxHeartbeats 4000000 in
theorem implAround (ns ls : List Nd) (vn vl : Value) (k : Nat) (w : World) (hn : Prs w vn ns) (hl : Prs w vl ls) (hw : winB ns ls = true) (hk : k < ns.length) :
    Calls Try.prog 111 #[.agg #[vn, vl], .int .i64 k, .func (.func 112) #[] #[]] w (IntsNew (aroL ns ls k (2 * ls.length)) w) := by
  have HN := Lib.hid hn
  have HL := Lib.hid hl
  obtain ⟨A, c, rfl⟩ := prs_form2 hn
  obtain ⟨A2, c2, rfl⟩ := prs_form2 hl
  clear hn hl
  obtain ⟨i0, hi, hz0, hz1, hz2⟩ := info_parts infoInt
  have HI := Lib.hid (And.intro hi (And.intro hz0 (And.intro hz1 hz2))); clear hi hz0 hz1 hz2
  have h20 := ((winB_iff ns ls).1 hw).1.2
  have HD := Lib.hid (fun d => dart_nat (ns := ns) (ls := ls) (d := d) hw)
  have HE := Lib.hid (fun d w hv (hd : d < 2 * ls.length) => dEnds ls (.slice A ns.length c) (.slice A2 ls.length c2) d w hv hd h20)
  have HLE := Lib.hid (from_le hw k)
  have H0 := Lib.hid (held_around w (.slice A ns.length c) (.slice A2 ls.length c2) (.func (.func 112) #[] #[]) k 78 3 129)
  have HO0 := Lib.hid (Ints.made (((w.alloc (.cells #[.slice A ns.length c, .slice A2 ls.length c2] 78)).alloc (.cells #[.int .i64 k] 3)).alloc (.cells #[.func (.func 112) #[] #[]] 129)) (w.heap.size + 3) (w.heap.size + 3) (by simp) (Nat.le_refl _))
  have HCM := Lib.hid (fun W x y (hx : x ∈ fromL ls k (2 * ls.length)) (hy : y ∈ fromL ls k (2 * ls.length)) (h : Held w W (capFs w.heap.size (w.heap.size + 2) (w.heap.size + 1) (.slice A ns.length c) (.slice A2 ls.length c2) (.func (.func 112) #[] #[]) k)) =>
    cmpAro ns ls (.slice A ns.length c) (.slice A2 ls.length c2) k w.heap.size (w.heap.size + 2) (w.heap.size + 1) x y w W HN.out HL.out hw hk h (by obtain ⟨d, e, hd, _⟩ := from_mem.1 hx; exact ⟨d, e, hd⟩) (by obtain ⟨d, e, hd, _⟩ := from_mem.1 hy; exact ⟨d, e, hd⟩))
  have HSORT := Lib.hid (show sortL (fun x y => decide (cmpI ns ls k x y < 0)) (fromL ls k (2 * ls.length)) = aroL ns ls k (2 * ls.length) from by
    rw [aro_sort]
    congr 1
    funext x y
    exact cmpI_lt ns ls k x y)
  have HF := Lib.hid (fun n => (show fromL ls k (n + 1) = if decide (dF ls n = k) = true then fromL ls k n ++ [(n : Int)] else fromL ls k n from rfl))
  have HFL := Lib.hid (fun n => (show (fromL ls k n).length ≤ n from fltN_len _ n))
  have HF0 := Lib.hid (show fromL ls k 0 = [] from rfl)
  clear hw
  go_enter Try.func111, Try.ntmps111
  obtain ⟨x0, x1, x2, x3, _⟩ := H0.out.1
  go_wp2_with fail
  clear x0 x1 x2 x3
  go_loopw [7, 16] (fun v i wr => ∃ m : Nat, m ≤ 2 * ls.length ∧ i = .int .i64 m ∧ (∃ q, v.ownBlock = some q) ∧ Ints wr (w.heap.size + 3) v (fromL ls k m) ∧ Held w wr [(w.heap.size, 0, .slice A ns.length c), (w.heap.size, 1, .slice A2 ls.length c2), (w.heap.size + 2, 0, .func (.func 112) #[] #[]), (w.heap.size + 1, 0, .int .i64 k)]) (fun _ i _ => 2 * ls.length - (intOf i).toNat)
  case atStart => exact ⟨0, Nat.zero_le _, rfl, ⟨_, rfl⟩, by rw [HF0.out]; exact HO0.out, H0.out.alloc _⟩
  case round =>
    clear H0 HO0
    obtain ⟨m, hm, rfl, ⟨q0, hq0⟩, hown, hh⟩ := hrel
    have HOWN := Lib.hid hown; clear hown
    have H1 := Lib.hid hh; clear hh
    obtain ⟨cv, rfl⟩ := HOWN.out.owned hq0
    clear hq0
    by_cases hlt : m < 2 * ls.length
    · obtain ⟨a, b, hda, hdb, ha, hb, -⟩ := HD.out m hlt
      have HX := Lib.hid (fun w hv => HE.out m w hv hlt)
      rw [hda, hdb] at HX
      unfold TwoIs at HX
      have HS := Lib.hid (HF.out m)
      rw [hda] at HS
      have hfl := HFL.out m
      have hz1 : (m : Int) < 2 * (ls.length : Int) := by omega
      have hz2 : (0 : Int) ≤ m := by omega
      obtain ⟨x0, x1, x2, x3, _⟩ := H1.out.1
      go_wp2_with fail
      refine (HX.out _ (HL.out.step H1.out.below)).mono ?_
      rintro e w1 ⟨rfl, hb1⟩
      have HO1 := Lib.hid (HOWN.out.step hb1)
      have H3 := Lib.hid (H1.out.step hb1)
      clear hb1 x0 x1 x2 x3
      obtain ⟨x0, x1, x2, x3, _⟩ := H3.out.1
      by_cases hak : a = k
      · have gq : ((a : Int) == (k : Int)) = true := by simp [hak]
        have HQ := Lib.hid (show decide ((a : Int) = (k : Int)) = true from decide_eq_true (by omega)); clear hak
        have hsz : w.heap.size + 3 ≤ w1.heap.size := by have := (HO1.out.own q0 rfl); omega
        have hA : (fromL ls k m).length ≤ 1000000 := by omega
        have hBq : w.heap.size + 3 ≤ (w1.alloc (.cells #[.int .i64 (m : Int)] 3)).heap.size := by simp; omega
        obtain ⟨hi, hz0, hz1', hz2'⟩ := HI.out
        go_wp2_with (at_builtin; refine wpList_append_int rfl _ _ 35 rfl Try.underlying35 hi hz0 hz1' hz2' (World.ownsRow.alloc HO1.out _) rfl rfl (cell_first _ _ _) hA hBq ?_)
        intro v' w5 hown hgrow hfresh
        have HO5 := Lib.hid (Ints.more (xs := fromL ls k m) (x := (m : Int)) (by simpa using hown))
        have H4 := Lib.hid (H3.out.stepB (B := w.heap.size + 3) ⟨by omega, by omega, by omega, by omega, trivial⟩ (grown_below HO1.out hsz hgrow) (by omega))
        have hbl : ∃ q, v'.ownBlock = some q := by
          rcases hfresh with e | e
          · exact ⟨q0, e.trans rfl⟩
          · exact ⟨_, e⟩
        have HBL := Lib.hid hbl
        clear hown hgrow hfresh hbl x0 x1 x2 x3
        go_wp2_with fail
        exact ⟨⟨m + 1, by omega, by go_num, HBL.out, by rw [HS.out, if_pos HQ.out]; exact HO5.out, H4.out⟩, by simp [intOf]; omega⟩
      · have gq : ((a : Int) == (k : Int)) = false := by rw [beq_eq_false_iff_ne]; omega
        have HQ := Lib.hid (show ¬ decide ((a : Int) = (k : Int)) = true from fun h => hak (by have := of_decide_eq_true h; omega)); clear hak
        go_wp2_with fail
        exact ⟨⟨m + 1, by omega, by go_num, ⟨_, rfl⟩, by rw [HS.out, if_neg HQ.out]; exact HO1.out, H3.out⟩, by simp [intOf]; omega⟩
    · obtain rfl : m = 2 * ls.length := by omega
      have HSO := Lib.hid (sortFunc (w0 := w) (B := w.heap.size + 3) (g := q0) (cp := cv) (fs := capFs w.heap.size (w.heap.size + 2) (w.heap.size + 1) (.slice A ns.length c) (.slice A2 ls.length c2) (.func (.func 112) #[] #[]) k) (.pointer (some ⟨w.heap.size, 0, none⟩)) (.pointer (some ⟨w.heap.size + 2, 0, none⟩)) (.pointer (some ⟨w.heap.size + 1, 0, none⟩)) (cmpI ns ls k) (fromL ls k (2 * ls.length)) wr (by omega) ⟨by omega, by omega, by omega, by omega, trivial⟩ H1.out HOWN.out HLE.out HCM.out)
      go_wp2_with fail
      refine HSO.out.mono ?_
      rintro e w2 ⟨rfl, h1, h2⟩
      rw [HSORT.out] at h1
      have hll : (aroL ns ls k (2 * ls.length)).length = (fromL ls k (2 * ls.length)).length := by rw [← HSORT.out]; exact sortL_len _ _ _ rfl
      have HO2 := Lib.hid h1
      have HB2 := Lib.hid h2.below
      clear h1 h2
      go_wp2_with fail
      go_ret
      exact ⟨_, rfl, HO2.out.mono (by omega), HB2.out⟩
end Go.Proofs.Ytghpbdgghliieac
