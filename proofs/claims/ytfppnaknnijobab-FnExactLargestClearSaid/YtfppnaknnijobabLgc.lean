/-
  LargestClear, of the program and of the model.
-/
import Derived.Test.YtfppnaknnijobabFcm
namespace Go.Proofs.Ytfppnaknnijobab
open Go.RowKit
set_option linter.unusedVariables false
set_option linter.unusedSimpArgs false

theorem exists_min {P : Nat → Prop} : ∀ n, P n → ∃ m, P m ∧ ∀ k, k < m → ¬ P k := by
  intro n
  induction n using Nat.strongRecOn with
  | _ n ih =>
    intro hn
    by_cases h : ∃ k, k < n ∧ P k
    · obtain ⟨k, hk, hp⟩ := h
      exact ih k hk hp
    · exact ⟨n, hn, fun k hk hp => h ⟨k, hk, hp⟩⟩
theorem fc_ex {s p : Nd} (xs : List Nd) (h1 : s.x ≤ 40) (h2 : 1 ≤ p.x) : ∃ r b, FcIs s p xs r b := by
  by_cases h : ∃ n : Nat, ∃ u v : Int, (0 ≤ u ∧ u ≤ s.x - p.x) ∧ (0 ≤ v ∧ v ≤ s.y - p.y) ∧ clrB ⟨u, v⟩ p xs = true ∧ (n : Int) = v * 1000 + u
  · obtain ⟨n, hn⟩ := h
    obtain ⟨m, ⟨u, v, hu, hv, hc, hm⟩, hmin⟩ := exists_min (P := fun n : Nat => ∃ u v : Int, (0 ≤ u ∧ u ≤ s.x - p.x) ∧ (0 ≤ v ∧ v ≤ s.y - p.y) ∧ clrB ⟨u, v⟩ p xs = true ∧ (n : Int) = v * 1000 + u) n hn
    refine ⟨⟨u, v⟩, true, .inl ⟨rfl, hc, hu, hv, fun u' v' a b c d => ?_⟩⟩
    by_cases hq : clrB ⟨u', v'⟩ p xs = true
    · simp only at d
      exact absurd ⟨u', v', ⟨a, b⟩, ⟨c, by omega⟩, hq, by omega⟩ (hmin (v' * 1000 + u').toNat (by omega))
    · simpa using hq
  · refine ⟨⟨0, 0⟩, false, .inr ⟨rfl, rfl, fun u v a b c d => ?_⟩⟩
    by_cases hq : clrB ⟨u, v⟩ p xs = true
    · exact absurd ⟨(v * 1000 + u).toNat, u, v, ⟨a, b⟩, ⟨c, d⟩, hq, by omega⟩ h
    · simpa using hq
theorem fcl_has {s p : Nd} {xs : List Nd} (h1 : flwB s xs = true) (h2 : shB p = true) : ∃ r : Nd, fclR s p xs = (r, hasC s p xs) := by
  have b1 := flw_bd h1
  have b2 := (shB_iff p).1 h2
  obtain ⟨r, b, h⟩ := fc_ex (s := s) (p := p) xs b1.1.2 b2.1.1
  exact ⟨r, by rw [fclR_yes h1 h2 h, h.has]⟩

theorem implSheetArea (p : Nd) (w : World) (h1 : 0 ≤ p.x * p.y) (h2 : p.x * p.y ≤ 1600) :
    Calls Try.prog 86 #[p.val] w (IntIs (p.x * p.y) w) := by
  obtain ⟨px, py⟩ := p
  unfold Nd.val
  simp only at h1 h2 ⊢
  have e1 : IntKind.i64.wrap (px * py) = px * py := IntWalk.i64_in _ (by omega)
  have H0 := Lib.hid ((Held.none_ w).new2 w.heap.size rfl [.int .i64 px, .int .i64 py] 60)
  go_enter Try.func86, Try.ntmps86
  go_wp2_with fail
  go_ret
  exact ⟨rfl, H0.out.below⟩

theorem lgRow_succ (s : Nd) (xs : List Nd) (best h : Int) (n : Nat) : lgRow s xs best h (n + 1) = if lgRow s xs best h n < ((n : Int) + 1) * h ∧ hasC s ⟨(n : Int) + 1, h⟩ xs = true then ((n : Int) + 1) * h else lgRow s xs best h n := rfl
theorem lgAll_succ (s : Nd) (xs : List Nd) (n : Nat) : lgAll s xs (n + 1) = lgRow s xs (lgAll s xs n) ((n : Int) + 1) s.x.toNat := rfl
theorem mul_bd {a b : Int} (h1 : 0 ≤ a) (h2 : a ≤ 40) (h3 : 0 ≤ b) (h4 : b ≤ 40) : 0 ≤ a * b ∧ a * b ≤ 1600 := by
  have x := Int.mul_nonneg h1 h3
  have y := Int.mul_le_mul h2 h4 h3 (by omega : (0 : Int) ≤ 40)
  omega
theorem lgRow_bd {s : Nd} {xs : List Nd} {best h : Int} (h1 : 0 ≤ best ∧ best ≤ 1600) (h2 : 0 ≤ h ∧ h ≤ 40) : ∀ n, n ≤ 40 → 0 ≤ lgRow s xs best h n ∧ lgRow s xs best h n ≤ 1600
  | 0, _ => h1
  | n + 1, hn => by
    have ih := lgRow_bd (s := s) (xs := xs) h1 h2 n (by omega)
    have := mul_bd (a := (n : Int) + 1) (b := h) (by omega) (by omega) h2.1 h2.2
    rw [lgRow_succ]
    split
    · exact this
    · exact ih
theorem lgAll_bd {s : Nd} {xs : List Nd} (hs : s.x ≤ 40) : ∀ n, n ≤ 40 → 0 ≤ lgAll s xs n ∧ lgAll s xs n ≤ 1600
  | 0, _ => by simp [lgAll]
  | n + 1, hn => by
    have ih := lgAll_bd (xs := xs) hs n (by omega)
    rw [lgAll_succ]
    exact lgRow_bd ih ⟨by omega, by omega⟩ _ (by omega)

set_option maxRecDepth 100000 in
set_option maxHeartbeats 2000000 in
theorem specLgc (s : Nd) (xs : List Nd) (v : Value) (w : World) (hv : Prs w v xs) :
    Calls Try.prog 57 #[.agg #[.int .i64 s.x, .int .i64 s.y, v]] w (IntIs (lgI s xs) w) := by
  have HA := Lib.hid (fun w h => specFlw s xs v w h)
  have HF := Lib.hid (fun (h : flwB s xs = true) p (hp : shB p = true) w hv => (show Calls Try.prog 52 #[.agg #[.int .i64 s.x, .int .i64 s.y, v], p.val] w (fun e w' => ∃ r : Nd, e = .returned (.tuple #[r.val, .bool (hasC s p xs)]) ∧ Below w.heap.size w w') by
    obtain ⟨r, hr⟩ := fcl_has (s := s) (p := p) (xs := xs) h hp
    have h1 := specFirst s xs v p w hv
    unfold NdOk at h1
    rw [hr] at h1
    exact h1.mono fun e w' ⟨he, hb⟩ => ⟨r, he, hb⟩))
  have HN := Lib.hid hv
  have HNO := Lib.hid (fun (h : flwB s xs = false) => (show lgI s xs = 0 from if_neg (by rw [h]; simp)))
  have HYE := Lib.hid (fun (h : flwB s xs = true) => (show lgI s xs = lgAll s xs s.y.toNat from if_pos h))
  have HBD := Lib.hid (fun (h1 : flwB s xs = true) => (show (1 ≤ s.x ∧ s.x ≤ 40) ∧ (1 ≤ s.y ∧ s.y ≤ 40) from ⟨(flw_bd h1).1, (flw_bd h1).2.1⟩))
  have HRS := Lib.hid (fun b h n => lgRow_succ s xs b h n)
  have HR0 := Lib.hid (fun b h => (show lgRow s xs b h 0 = b from rfl))
  have HAS := Lib.hid (fun n => lgAll_succ s xs n)
  have HA0 := Lib.hid (show lgAll s xs 0 = 0 from rfl)
  have HRB := Lib.hid (fun b h h1 h2 n hn => lgRow_bd (s := s) (xs := xs) (best := b) (h := h) h1 h2 n hn)
  have HAB := Lib.hid (fun h n hn => lgAll_bd (s := s) (xs := xs) h n hn)
  obtain ⟨A, c, rfl⟩ := prs_form2 hv
  clear hv
  generalize lgI s xs = r at *
  generalize lgAll s xs = LA at *
  generalize lgRow s xs = LR at *
  have H0 := Lib.hid ((Held.none_ w).new2 w.heap.size rfl [.int .i64 s.x, .int .i64 s.y, .slice A xs.length c] 75)
  simp only [newFs, List.cons_append, List.nil_append, List.append_nil] at H0
  generalize flwB s xs = d at *
  obtain ⟨hs, hhs⟩ : ∃ f : Nd → Bool, f = fun p => hasC s p xs := ⟨_, rfl⟩
  have HF2 := Lib.hid (fun h p hp w hv => (show Calls Try.prog 52 #[.agg #[.int .i64 s.x, .int .i64 s.y, .slice A xs.length c], p.val] w (fun e w' => ∃ r : Nd, e = .returned (.tuple #[r.val, .bool (hs p)]) ∧ Below w.heap.size w w') by rw [hhs]; exact HF.out h p hp w hv))
  have HRS2 := Lib.hid (fun b h n => (show LR b h (n + 1) = if LR b h n < ((n : Int) + 1) * h ∧ hs ⟨(n : Int) + 1, h⟩ = true then ((n : Int) + 1) * h else LR b h n by rw [hhs]; exact HRS.out b h n))
  clear hhs HF HRS
  obtain ⟨sx, sy⟩ := s
  simp only at H0 HA HF2 HYE HBD HAS HAB ⊢
  go_enter Try.func57, Try.ntmps57
  obtain ⟨x0, x1, x2, _⟩ := H0.out.1
  go_wp2_with fail
  refine (HA.out _ (HN.out.step H0.out.below)).mono ?_
  rintro e w1 ⟨rfl, hb1⟩
  have H1 := Lib.hid (H0.out.step hb1); clear hb1 x0 x1 x2
  obtain ⟨x0, x1, x2, _⟩ := H1.out.1
  cases d
  · have HRZ := Lib.hid (HNO.out rfl)
    go_wp2_with fail
    go_ret
    exact ⟨ret_int (by rw [HRZ.out]), H1.out.below⟩
  have HRY := Lib.hid (HYE.out (by trivial))
  obtain ⟨⟨bx1, bx2⟩, by1, by2⟩ := HBD.out (by trivial)
  obtain ⟨W, hW⟩ : ∃ n : Nat, sx = n := ⟨sx.toNat, by omega⟩
  obtain ⟨H, hH⟩ : ∃ n : Nat, sy = n := ⟨sy.toNat, by omega⟩
  subst hW hH
  rw [Int.toNat_natCast] at HRY
  have HAS2 := Lib.hid (fun n => (show LA (n + 1) = LR (LA n) ((n : Int) + 1) W from HAS.out n))
  clear HNO HYE HBD HAS
  clear HA H0
  go_wp2_with fail
  clear x0 x1 x2
  go_loopw [3, 4] (fun vb vh wr => ∃ (m : Nat) (h : Int), m ≤ H ∧ h = (m : Int) + 1 ∧ vh = .int .i64 h ∧ vb = .int .i64 (LA m) ∧ Held w wr [(w.heap.size, 0, .int .i64 W), (w.heap.size, 1, .int .i64 H), (w.heap.size, 2, .slice A xs.length c)]) (fun _ vh _ => 50 - (intOf vh).toNat)
  case atStart => exact ⟨0, 1, by omega, by omega, rfl, by rw [HA0.out], H1.out⟩
  case round =>
    clear H1
    obtain ⟨m, h, hm, hhm, rfl, rfl, hh⟩ := hrel
    have H1 := Lib.hid hh; clear hh
    have HHM := Lib.hid hhm
    have hh1 : h ≤ (m : Int) + 1 := by omega
    have hh2 : (m : Int) + 1 ≤ h := by omega
    clear hhm
    by_cases hlt : h ≤ (H : Int)
    · have eh : IntKind.i64.wrap (h + 1) = h + 1 := IntWalk.i64_in _ (by omega)
      obtain ⟨x0, x1, x2, _⟩ := H1.out.1
      go_wp2_with fail
      clear x0 x1 x2
      go_loopw [3, 5] (fun vb vw wr2 => ∃ (k : Nat) (g : Int), k ≤ W ∧ g = (k : Int) + 1 ∧ vw = .int .i64 g ∧ vb = .int .i64 (LR (LA m) h k) ∧ Held w wr2 [(w.heap.size, 0, .int .i64 W), (w.heap.size, 1, .int .i64 H), (w.heap.size, 2, .slice A xs.length c)]) (fun _ vw _ => 50 - (intOf vw).toNat)
      case atStart => exact ⟨0, 1, by omega, by omega, rfl, by rw [HR0.out], H1.out⟩
      case round =>
        clear H1
        obtain ⟨k, g, hk, hgk, rfl, rfl, hh⟩ := hrel
        have H1 := Lib.hid hh; clear hh
        by_cases hkt : g ≤ (W : Int)
        · have hb0 := HAB.out bx2 m (by omega)
          have hb1 := HRB.out (LA m) h hb0 ⟨by omega, by omega⟩ k (by omega)
          have hpb := mul_bd (a := g) (b := h) (by omega) (by omega) (by omega) (by omega)
          have HSU := Lib.hid (HRS2.out (LA m) h k)
          have HFC := Lib.hid (HF2.out (by trivial) ⟨g, h⟩ ((shB_iff _).2 (by dsimp only; omega)))
          rw [← hgk] at HSU
          have HGK := Lib.hid hgk
          have hg1 : 1 ≤ g := by omega
          have eg : IntKind.i64.wrap (g + 1) = g + 1 := IntWalk.i64_in _ (by omega)
          clear hgk
          have e1 : IntKind.i64.wrap (g * h) = g * h := IntWalk.i64_in _ (by omega)
          generalize hs ⟨g, h⟩ = hq at *
          generalize hlr : LR (LA m) h k = best at *
          clear hlr hb0
          unfold Nd.val at HFC
          simp only at HFC
          obtain ⟨x0, x1, x2, _⟩ := H1.out.1
          by_cases hle : g * h ≤ best
          · rw [if_neg (by omega)] at HSU
            go_wp2_with fail
            exact ⟨⟨k + 1, g + 1, by have := HGK.out; omega, by have := HGK.out; omega, rfl, by rw [HSU.out], H1.out⟩, by simp [intOf]; omega⟩
          · have hle2 : best < g * h := by omega
            go_wp2_with fail
            refine (HFC.out _ (HN.out.step H1.out.below)).mono ?_
            rintro e w4 ⟨r0, rfl, hb4⟩
            have H4 := Lib.hid ((H1.out.step hb4).alloc (.cells #[.int .i64 r0.x, .int .i64 r0.y] 82)); clear hb4 x0 x1 x2
            obtain ⟨rx, ry⟩ := r0
            simp only at H4 ⊢
            cases hq
            · rw [if_neg (by simp)] at HSU
              go_wp2_with fail
              exact ⟨⟨k + 1, g + 1, by have := HGK.out; omega, by have := HGK.out; omega, rfl, by rw [HSU.out], H4.out⟩, by simp [intOf]; omega⟩
            · rw [if_pos ⟨hle2, rfl⟩] at HSU
              go_wp2_with fail
              exact ⟨⟨k + 1, g + 1, by have := HGK.out; omega, by have := HGK.out; omega, rfl, by rw [HSU.out], H4.out⟩, by simp [intOf]; omega⟩
        · obtain rfl : k = W := by omega
          obtain ⟨x0, x1, x2, _⟩ := H1.out.1
          go_wp2_with fail
          exact ⟨⟨m + 1, h + 1, by have := HHM.out; omega, by have := HHM.out; omega, rfl, by rw [HAS2.out, ← HHM.out], H1.out⟩, by simp [intOf]; omega⟩
    · obtain rfl : m = H := by omega
      obtain ⟨x0, x1, x2, _⟩ := H1.out.1
      go_wp2_with fail
      go_ret
      exact ⟨ret_int (by rw [HRY.out]), H1.out.below⟩

set_option maxRecDepth 100000 in
set_option maxHeartbeats 2000000 in
theorem implLgc (s : Nd) (xs : List Nd) (v : Value) (w : World) (hv : Prs w v xs) (hb : PrsIn xs) :
    Calls Try.prog 58 #[.agg #[.int .i64 s.x, .int .i64 s.y, v]] w (IntIs (lgI s xs) w) := by
  have HA := Lib.hid (fun w h => implFlw s xs v w h hb)
  have HAR := Lib.hid (fun p w h1 h2 => implSheetArea p w h1 h2)
  have HF := Lib.hid (fun (h : flwB s xs = true) p (hp : shB p = true) w hv => (show Calls Try.prog 95 #[.agg #[.int .i64 s.x, .int .i64 s.y, v], p.val] w (fun e w' => ((e = .returned (.pointer none) ∧ hasC s p xs = false) ∨ ∃ g : Nat, e = .returned (.pointer (some ⟨g, 0, none⟩)) ∧ hasC s p xs = true) ∧ Below w.heap.size w w') by
    exact (implPtr s xs v p w hv h hp).mono fun e w' ⟨hb, hw⟩ => ⟨by
      rcases hw with ⟨rfl, hf⟩ | ⟨r, g, rfl, hf, -⟩
      · exact .inl ⟨rfl, hf.has.symm⟩
      · exact .inr ⟨g, rfl, hf.has.symm⟩, hb⟩))
  have HN := Lib.hid hv
  have HNO := Lib.hid (fun (h : flwB s xs = false) => (show lgI s xs = 0 from if_neg (by rw [h]; simp)))
  have HYE := Lib.hid (fun (h : flwB s xs = true) => (show lgI s xs = lgAll s xs s.y.toNat from if_pos h))
  have HBD := Lib.hid (fun (h1 : flwB s xs = true) => (show (1 ≤ s.x ∧ s.x ≤ 40) ∧ (1 ≤ s.y ∧ s.y ≤ 40) from ⟨(flw_bd h1).1, (flw_bd h1).2.1⟩))
  have HRS := Lib.hid (fun b h n => lgRow_succ s xs b h n)
  have HR0 := Lib.hid (fun b h => (show lgRow s xs b h 0 = b from rfl))
  have HAS := Lib.hid (fun n => lgAll_succ s xs n)
  have HA0 := Lib.hid (show lgAll s xs 0 = 0 from rfl)
  have HRB := Lib.hid (fun b h h1 h2 n hn => lgRow_bd (s := s) (xs := xs) (best := b) (h := h) h1 h2 n hn)
  have HAB := Lib.hid (fun h n hn => lgAll_bd (s := s) (xs := xs) h n hn)
  obtain ⟨A, c, rfl⟩ := prs_form2 hv
  clear hv
  generalize lgI s xs = r at *
  generalize lgAll s xs = LA at *
  generalize lgRow s xs = LR at *
  have H0 := Lib.hid ((Held.none_ w).new2 w.heap.size rfl [.int .i64 s.x, .int .i64 s.y, .slice A xs.length c] 75)
  simp only [newFs, List.cons_append, List.nil_append, List.append_nil] at H0
  generalize flwB s xs = d at *
  obtain ⟨hs, hhs⟩ : ∃ f : Nd → Bool, f = fun p => hasC s p xs := ⟨_, rfl⟩
  have HF2 := Lib.hid (fun h p hp w hv => (show Calls Try.prog 95 #[.agg #[.int .i64 s.x, .int .i64 s.y, .slice A xs.length c], p.val] w (fun e w' => ((e = .returned (.pointer none) ∧ hs p = false) ∨ ∃ g : Nat, e = .returned (.pointer (some ⟨g, 0, none⟩)) ∧ hs p = true) ∧ Below w.heap.size w w') by rw [hhs]; exact HF.out h p hp w hv))
  have HRS2 := Lib.hid (fun b h n => (show LR b h (n + 1) = if LR b h n < ((n : Int) + 1) * h ∧ hs ⟨(n : Int) + 1, h⟩ = true then ((n : Int) + 1) * h else LR b h n by rw [hhs]; exact HRS.out b h n))
  clear hhs HF HRS
  obtain ⟨sx, sy⟩ := s
  simp only at H0 HA HF2 HYE HBD HAS HAB ⊢
  go_enter Try.func58, Try.ntmps58
  obtain ⟨x0, x1, x2, _⟩ := H0.out.1
  go_wp2_with fail
  refine (HA.out _ (HN.out.step H0.out.below)).mono ?_
  rintro e w1 ⟨rfl, hb1⟩
  have H1 := Lib.hid (H0.out.step hb1); clear hb1 x0 x1 x2
  obtain ⟨x0, x1, x2, _⟩ := H1.out.1
  cases d
  · have HRZ := Lib.hid (HNO.out rfl)
    go_wp2_with fail
    go_ret
    exact ⟨ret_int (by rw [HRZ.out]), H1.out.below⟩
  have HRY := Lib.hid (HYE.out (by trivial))
  obtain ⟨⟨bx1, bx2⟩, by1, by2⟩ := HBD.out (by trivial)
  obtain ⟨W, hW⟩ : ∃ n : Nat, sx = n := ⟨sx.toNat, by omega⟩
  obtain ⟨H, hH⟩ : ∃ n : Nat, sy = n := ⟨sy.toNat, by omega⟩
  subst hW hH
  rw [Int.toNat_natCast] at HRY
  have HAS2 := Lib.hid (fun n => (show LA (n + 1) = LR (LA n) ((n : Int) + 1) W from HAS.out n))
  clear HNO HYE HBD HAS
  clear HA H0
  go_wp2_with fail
  clear x0 x1 x2
  go_loopw [3, 4] (fun vb vh wr => ∃ (m : Nat) (h : Int), m ≤ H ∧ h = (m : Int) + 1 ∧ vh = .int .i64 h ∧ vb = .int .i64 (LA m) ∧ Held w wr [(w.heap.size, 0, .int .i64 W), (w.heap.size, 1, .int .i64 H), (w.heap.size, 2, .slice A xs.length c)]) (fun _ vh _ => 50 - (intOf vh).toNat)
  case atStart => exact ⟨0, 1, by omega, by omega, rfl, by rw [HA0.out], H1.out⟩
  case round =>
    clear H1
    obtain ⟨m, h, hm, hhm, rfl, rfl, hh⟩ := hrel
    have H1 := Lib.hid hh; clear hh
    have HHM := Lib.hid hhm
    have hh1 : h ≤ (m : Int) + 1 := by omega
    have hh2 : (m : Int) + 1 ≤ h := by omega
    clear hhm
    by_cases hlt : h ≤ (H : Int)
    · have eh : IntKind.i64.wrap (h + 1) = h + 1 := IntWalk.i64_in _ (by omega)
      obtain ⟨x0, x1, x2, _⟩ := H1.out.1
      go_wp2_with fail
      clear x0 x1 x2
      go_loopw [3, 5] (fun vb vw wr2 => ∃ (k : Nat) (g : Int), k ≤ W ∧ g = (k : Int) + 1 ∧ vw = .int .i64 g ∧ vb = .int .i64 (LR (LA m) h k) ∧ Held w wr2 [(w.heap.size, 0, .int .i64 W), (w.heap.size, 1, .int .i64 H), (w.heap.size, 2, .slice A xs.length c)]) (fun _ vw _ => 50 - (intOf vw).toNat)
      case atStart => exact ⟨0, 1, by omega, by omega, rfl, by rw [HR0.out], H1.out⟩
      case round =>
        clear H1
        obtain ⟨k, g, hk, hgk, rfl, rfl, hh⟩ := hrel
        have H1 := Lib.hid hh; clear hh
        by_cases hkt : g ≤ (W : Int)
        · have hb0 := HAB.out bx2 m (by omega)
          have hb1 := HRB.out (LA m) h hb0 ⟨by omega, by omega⟩ k (by omega)
          have hpb := mul_bd (a := g) (b := h) (by omega) (by omega) (by omega) (by omega)
          have HSU := Lib.hid (HRS2.out (LA m) h k)
          have HFC := Lib.hid (HF2.out (by trivial) ⟨g, h⟩ ((shB_iff _).2 (by dsimp only; omega)))
          have HAP := Lib.hid (fun w => HAR.out ⟨g, h⟩ w hpb.1 hpb.2)
          rw [← hgk] at HSU
          have HGK := Lib.hid hgk
          have hg1 : 1 ≤ g := by omega
          have eg : IntKind.i64.wrap (g + 1) = g + 1 := IntWalk.i64_in _ (by omega)
          clear hgk
          generalize hs ⟨g, h⟩ = hq at *
          generalize hlr : LR (LA m) h k = best at *
          clear hlr hb0
          unfold Nd.val at HFC HAP
          simp only at HFC HAP
          obtain ⟨x0, x1, x2, _⟩ := H1.out.1
          obtain ⟨y0, -⟩ := H1.out.2.1
          have H3 := Lib.hid (H1.out.new2 wr.heap.size rfl [.int .i64 g, .int .i64 h] 60)
          simp only [newFs, List.cons_append, List.nil_append, List.append_nil] at H3
          have hzz : best < g * h ∨ g * h ≤ best := by omega
          have hle : ¬ best < g * h → g * h ≤ best := by omega
          generalize g * h = q at *
          go_wp2_with fail
          refine (HAP.out _).mono ?_
          rintro e w3 ⟨rfl, hb3⟩
          have H4 := Lib.hid (H3.out.step hb3); clear hb3 x0 x1 x2 y0
          obtain ⟨x0, x1, x2, x3, x4, _⟩ := H4.out.1
          by_cases hlt2 : best < q
          · go_wp2_with fail
            refine (HFC.out _ (HN.out.step H4.out.below)).mono ?_
            rintro e w5 ⟨hw, hb5⟩
            have H5 := Lib.hid (H4.out.step hb5); clear hb5 x0 x1 x2 x3 x4
            obtain ⟨x0, x1, x2, x3, x4, _⟩ := H5.out.1
            rcases hw with ⟨rfl, hf⟩ | ⟨gg, rfl, hf⟩
            · rw [if_neg (by rw [hf]; simp)] at HSU
              go_wp2_with fail
              exact ⟨⟨k + 1, g + 1, by have := HGK.out; omega, by have := HGK.out; omega, rfl, by rw [HSU.out], ⟨H5.out.1.2.2, H5.out.2.1.2.2, H5.out.2.2⟩⟩, by simp [intOf]; omega⟩
            · rw [if_pos ⟨hlt2, hf⟩] at HSU
              go_wp2_with fail
              refine (HAP.out _).mono ?_
              rintro e w6 ⟨rfl, hb6⟩
              have H6 := Lib.hid (H5.out.step hb6); clear hb6 x0 x1 x2 x3 x4
              go_wp2_with fail
              exact ⟨⟨k + 1, g + 1, by have := HGK.out; omega, by have := HGK.out; omega, rfl, by rw [HSU.out], ⟨H6.out.1.2.2, H6.out.2.1.2.2, H6.out.2.2⟩⟩, by simp [intOf]; omega⟩
          · rw [if_neg (fun h => hlt2 h.1)] at HSU
            go_wp2_with fail
            exact ⟨⟨k + 1, g + 1, by have := HGK.out; omega, by have := HGK.out; omega, rfl, by rw [HSU.out], ⟨H4.out.1.2.2, H4.out.2.1.2.2, H4.out.2.2⟩⟩, by simp [intOf]; omega⟩
        · obtain rfl : k = W := by omega
          obtain ⟨x0, x1, x2, _⟩ := H1.out.1
          go_wp2_with fail
          exact ⟨⟨m + 1, h + 1, by have := HHM.out; omega, by have := HHM.out; omega, rfl, by rw [HAS2.out, ← HHM.out], H1.out⟩, by simp [intOf]; omega⟩
    · obtain rfl : m = H := by omega
      obtain ⟨x0, x1, x2, _⟩ := H1.out.1
      go_wp2_with fail
      go_ret
      exact ⟨ret_int (by rw [HRY.out]), H1.out.below⟩
end Go.Proofs.Ytfppnaknnijobab
