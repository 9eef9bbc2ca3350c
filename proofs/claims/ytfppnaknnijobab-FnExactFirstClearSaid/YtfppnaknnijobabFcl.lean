/-
  The first clear place, of the program and of the model.
-/
import Derived.Test.YtfppnaknnijobabFlwT
import Derived.Test.YtfppnaknnijobabCopyP
namespace Go.Proofs.Ytfppnaknnijobab
open Go.RowKit
set_option linter.unusedVariables false
set_option linter.unusedSimpArgs false

open Classical in
noncomputable def fcR (s p : Nd) (xs : List Nd) : Nd × Bool := if h : ∃ q : Nd × Bool, FcIs s p xs q.1 q.2 then Classical.choose h else (⟨0, 0⟩, false)
theorem fcR_is {s p : Nd} {xs : List Nd} {r : Nd} {b : Bool} (h : FcIs s p xs r b) : fcR s p xs = (r, b) := by
  have hex : ∃ q : Nd × Bool, FcIs s p xs q.1 q.2 := ⟨(r, b), h⟩
  have e : fcR s p xs = Classical.choose hex := by unfold fcR; rw [dif_pos hex]
  obtain ⟨e1, e2⟩ := (Classical.choose_spec hex).same h
  rw [e]
  exact Prod.ext e1 e2
noncomputable def fclR (s p : Nd) (xs : List Nd) : Nd × Bool := if (flwB s xs && shB p) = true then fcR s p xs else (⟨0, 0⟩, false)
theorem fclR_no {s p : Nd} {xs : List Nd} (h : (flwB s xs && shB p) = false) : fclR s p xs = (⟨0, 0⟩, false) := if_neg (by rw [h]; simp)
theorem fclR_yes {s p : Nd} {xs : List Nd} {r : Nd} {b : Bool} (h : flwB s xs = true) (h2 : shB p = true) (h3 : FcIs s p xs r b) : fclR s p xs = (r, b) := (if_pos (by rw [h, h2]; rfl)).trans (fcR_is h3)
/-- A node and a bool are returned. -/
def NdOk (q : Nd × Bool) (w : World) (e : Ending) (w' : World) : Prop := e = .returned (.tuple #[q.1.val, .bool q.2]) ∧ Below w.heap.size w w'
/-- Has one of the first i spots been covered? -/
def badT (a p : Nd) (xs : List Nd) (i : Nat) : Bool := (List.range i).any fun j => covB a p (atN xs j)
theorem badT_succ (a p : Nd) (xs : List Nd) (i : Nat) : badT a p xs (i + 1) = (badT a p xs i || covB a p (atN xs i)) := by
  unfold badT
  rw [List.range_succ, List.any_append]
  simp
theorem badT_all (a p : Nd) (xs : List Nd) : clrB a p xs = !badT a p xs xs.length := by
  rw [Bool.eq_iff_iff, clrB_iff, Bool.not_eq_true']
  unfold badT
  rw [List.any_eq_false]
  constructor
  · intro h k hk
    rw [h k (List.mem_range.1 hk)]
    simp
  · intro h k hk
    have := h k (List.mem_range.2 hk)
    simpa using this
theorem put2z {W : World} {B : Nat} {T : TypeId} {a b : Value} (K : W.heap[B]? = some (.cells #[a, b] T)) (x y : Value) :
    ((W.setCell ⟨B, 0, none⟩ x).setCell ⟨B, 1, none⟩ y).cell? ⟨B, 0, none⟩ = some x ∧ ((W.setCell ⟨B, 0, none⟩ x).setCell ⟨B, 1, none⟩ y).cell? ⟨B, 1, none⟩ = some y := by
  have m0 := heap_setCell_self (k := 0) K x
  have m1 := heap_setCell_self (k := 1) m0 y
  exact ⟨(cell_of_cells (k := 0) m1).trans rfl, (cell_of_cells (k := 1) m1).trans rfl⟩

/-- A pointer to the first clear place, or none. -/
def PtrIs (s p : Nd) (xs : List Nd) (w : World) (e : Ending) (w' : World) : Prop :=
  Below w.heap.size w w' ∧ ((e = .returned (.pointer none) ∧ FcIs s p xs ⟨0, 0⟩ false) ∨ ∃ (r : Nd) (g : Nat), e = .returned (.pointer (some ⟨g, 0, none⟩)) ∧ FcIs s p xs r true ∧ g < w'.heap.size ∧ w'.cell? ⟨g, 0, none⟩ = some (.int .i64 r.x) ∧ w'.cell? ⟨g, 1, none⟩ = some (.int .i64 r.y))
set_option maxRecDepth 100000 in
set_option maxHeartbeats 2000000 in
theorem implPtr (s : Nd) (xs : List Nd) (v : Value) (p : Nd) (w : World) (hv : Prs w v xs) (hf : flwB s xs = true) (hp : shB p = true) :
    Calls Try.prog 95 #[.agg #[.int .i64 s.x, .int .i64 s.y, v], p.val] w (PtrIs s p xs w) := by
  have HN := Lib.hid hv
  have b1 := flw_bd hf
  have b2 := (shB_iff p).1 hp
  have HC := Lib.hid (fun a (h1 : -1000 ≤ a.x ∧ a.x ≤ 1000) (h2 : -1000 ≤ a.y ∧ a.y ≤ 1000) w hv => implClr s xs v a p w hv (way_flw hf h1 h2))
  obtain ⟨A, c, rfl⟩ := prs_form2 hv
  clear hv hf hp
  have HG := Lib.hid (fun (r : Nd) (h1 : clrB r p xs = true) (h2 : 0 ≤ r.x ∧ r.x ≤ s.x - p.x) (h3 : 0 ≤ r.y ∧ r.y ≤ s.y - p.y) (h4 : ∀ u v : Int, 0 ≤ u → u ≤ s.x - p.x → 0 ≤ v → (v < r.y ∨ v = r.y ∧ u < r.x) → clrB ⟨u, v⟩ p xs = false) => (show FcIs s p xs r true from .inl ⟨rfl, h1, h2, h3, h4⟩))
  have HE := Lib.hid (fun (h : ∀ u v : Int, 0 ≤ u → u ≤ s.x - p.x → 0 ≤ v → v ≤ s.y - p.y → clrB ⟨u, v⟩ p xs = false) => (show FcIs s p xs ⟨0, 0⟩ false from .inr ⟨rfl, rfl, h⟩))
  unfold PtrIs
  generalize FcIs s p xs = FC at *
  obtain ⟨cl, hcl⟩ : ∃ f : Nd → Bool, f = fun a => clrB a p xs := ⟨_, rfl⟩
  have HCL := Lib.hid (fun a => (show clrB a p xs = cl a by rw [hcl]))
  have HC2 := Lib.hid (fun a h1 h2 w hv => (HCL.out a) ▸ HC.out a h1 h2 w hv)
  have HG2 := Lib.hid (fun r (h1 : cl r = true) h2 h3 (h4 : ∀ u v : Int, 0 ≤ u → u ≤ s.x - p.x → 0 ≤ v → (v < r.y ∨ v = r.y ∧ u < r.x) → cl ⟨u, v⟩ = false) => HG.out r (by rw [HCL.out]; exact h1) h2 h3 (fun u v a b c d => by rw [HCL.out]; exact h4 u v a b c d))
  have HE2 := Lib.hid (fun (h : ∀ u v : Int, 0 ≤ u → u ≤ s.x - p.x → 0 ≤ v → v ≤ s.y - p.y → cl ⟨u, v⟩ = false) => HE.out (fun u v a b c d => by rw [HCL.out]; exact h u v a b c d))
  clear HC HG HE HCL hcl
  have H0 := Lib.hid (((Held.none_ w).new2 w.heap.size rfl [.int .i64 s.x, .int .i64 s.y, .slice A xs.length c] 75).new2 (w.heap.size + 1) (by simp) [.int .i64 p.x, .int .i64 p.y] 60)
  simp only [newFs, List.cons_append, List.nil_append, List.append_nil] at H0
  obtain ⟨px, py⟩ := p
  obtain ⟨sx, sy⟩ := s
  unfold Nd.val at *
  simp only at H0 HC2 HG2 HE2 b1 b2 ⊢
  obtain ⟨⟨bx1, bx2⟩, ⟨by1, by2⟩, -, -⟩ := b1
  obtain ⟨⟨bp1, bp2⟩, bp3, bp4⟩ := b2
  have e1 : IntKind.i64.wrap (sx - px) = sx - px := IntWalk.i64_in _ (by omega)
  have e2 : IntKind.i64.wrap (sy - py) = sy - py := IntWalk.i64_in _ (by omega)
  go_enter Try.func95, Try.ntmps95
  obtain ⟨x0, x1, x2, x3, x4, _⟩ := H0.out.1
  go_wp2_with fail
  clear x0 x1 x2 x3 x4
  go_loopw [5] (fun vm wr => ∃ m : Nat, m ≤ 41 ∧ vm = .int .i64 m ∧ (∀ u v : Int, 0 ≤ u → u ≤ sx - px → 0 ≤ v → v < m → cl ⟨u, v⟩ = false) ∧ Held w wr [(w.heap.size + 1, 0, .int .i64 px), (w.heap.size + 1, 1, .int .i64 py), (w.heap.size, 0, .int .i64 sx), (w.heap.size, 1, .int .i64 sy), (w.heap.size, 2, .slice A xs.length c)]) (fun vm _ => 50 - (intOf vm).toNat)
  case atStart => exact ⟨0, by omega, rfl, fun u v _ _ h1 h2 => by omega, H0.out⟩
  case round =>
    clear H0
    obtain ⟨m, hm, rfl, hno, hh⟩ := hrel
    have HNO := Lib.hid hno; clear hno
    have H1 := Lib.hid hh; clear hh
    by_cases hlt : (m : Int) ≤ sy - py
    · obtain ⟨x0, x1, x2, x3, x4, _⟩ := H1.out.1
      go_wp2_with fail
      clear x0 x1 x2 x3 x4
      go_loopw [6] (fun vk wr2 => ∃ k : Nat, k ≤ 41 ∧ vk = .int .i64 k ∧ (∀ u : Int, 0 ≤ u → u ≤ sx - px → u < k → cl ⟨u, m⟩ = false) ∧ Held w wr2 [(w.heap.size + 1, 0, .int .i64 px), (w.heap.size + 1, 1, .int .i64 py), (w.heap.size, 0, .int .i64 sx), (w.heap.size, 1, .int .i64 sy), (w.heap.size, 2, .slice A xs.length c)]) (fun vk _ => 50 - (intOf vk).toNat)
      case atStart => exact ⟨0, by omega, rfl, fun u h1 _ h2 => by omega, H1.out⟩
      case round =>
        clear H1
        obtain ⟨k, hk, rfl, hro, hh⟩ := hrel
        have HRO := Lib.hid hro; clear hro
        have H1 := Lib.hid hh; clear hh
        by_cases hkt : (k : Int) ≤ sx - px
        · have HX := Lib.hid (HC2.out ⟨k, m⟩ (by dsimp only; omega) (by dsimp only; omega))
          have HY := Lib.hid (fun (h : cl ⟨k, m⟩ = true) => HG2.out ⟨k, m⟩ h (by dsimp only; omega) (by dsimp only; omega) (fun u v a b c d => by
            rcases d with d | ⟨d1, d2⟩
            · exact HNO.out u v a b c d
            · simp only at d1 d2; rw [d1]; exact HRO.out u a b d2))
          have HZ := Lib.hid (fun (h : cl ⟨k, m⟩ = false) => (show ∀ u : Int, 0 ≤ u → u ≤ sx - px → u < ((k + 1 : Nat) : Int) → cl ⟨u, m⟩ = false from fun u a b d => by
            by_cases e : u = k
            · rw [e]; exact h
            · exact HRO.out u a b (by omega)))
          generalize hq : cl ⟨k, m⟩ = q at *
          clear hq
          simp only at HX
          obtain ⟨x0, x1, x2, x3, x4, _⟩ := H1.out.1
          obtain ⟨y0, -, y1, -⟩ := H1.out.2.1
          have H3 := Lib.hid (H1.out.new2 wr.heap.size rfl [.int .i64 (k : Int), .int .i64 (m : Int)] 82)
          simp only [newFs, List.cons_append, List.nil_append, List.append_nil] at H3
          go_wp2_with fail
          refine (HX.out _ (HN.out.step H3.out.below)).mono ?_
          rintro e w4 ⟨rfl, hb4⟩
          have H4 := Lib.hid (H3.out.step hb4); clear hb4 x0 x1 x2 x3 x4 y0 y1
          cases q
          · have HP := Lib.hid (HZ.out rfl)
            go_wp2_with fail
            exact ⟨⟨k + 1, by omega, by go_num, HP.out, ⟨H4.out.1.2.2, H4.out.2.1.2.2, H4.out.2.2⟩⟩, by simp [intOf]; omega⟩
          · have HP := Lib.hid (HY.out rfl)
            go_wp2_with fail
            go_ret
            exact ⟨H4.out.below, .inr ⟨_, _, rfl, HP.out, H4.out.2.1.1, H4.out.1.1, H4.out.1.2.1⟩⟩
        · have HP := Lib.hid (show ∀ u v : Int, 0 ≤ u → u ≤ sx - px → 0 ≤ v → v < ((m + 1 : Nat) : Int) → cl ⟨u, v⟩ = false from fun u v a b c' d => by
            by_cases e : v = m
            · rw [e]; exact HRO.out u a b (by omega)
            · exact HNO.out u v a b c' (by omega))
          obtain ⟨x0, x1, x2, x3, x4, _⟩ := H1.out.1
          go_wp2_with fail
          exact ⟨⟨m + 1, by omega, by go_num, HP.out, H1.out⟩, by simp [intOf]; omega⟩
    · have HP := Lib.hid (HE2.out (fun u v a b c' d => HNO.out u v a b c' (by omega)))
      obtain ⟨x0, x1, x2, x3, x4, _⟩ := H1.out.1
      go_wp2_with fail
      go_ret
      exact ⟨H1.out.below, .inl ⟨rfl, HP.out⟩⟩
end Go.Proofs.Ytfppnaknnijobab
