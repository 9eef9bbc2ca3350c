/-
  Several texts in one: a claim has at most 60 files.
-/
import Derived.Test.YtepacoacalhdcaaGreatG39
import Derived.Test.YtepacoacalhdcaaGreatG1
import Derived.LoopTactic
import Derived.Outline
import Derived.Deep.QuietTactic
import Derived.BigQuiet

namespace Go.Proofs.YtepacoacalhdcaaGreat
open Go.RowKit
set_option linter.unusedVariables false
set_option linter.unusedSimpArgs false

theorem held_plus {w W : World} {fs gs : List (Nat × Nat × Value)} (h : Held w W fs) (hc : Cs W gs) (hb : Bs W.heap.size gs) : Held w W (fs ++ gs) :=
  ⟨h.1.append hc, h.2.1.append hb, h.2.2⟩

/-- A boxed pair of slices. -/
theorem held_pair (w : World) (vn vl : Value) (T : TypeId) : Held w (w.alloc (.cells #[vn, vl] T)) [(w.heap.size, 0, vn), (w.heap.size, 1, vl)] := (Held.none_ w).new2 w.heap.size rfl [vn, vl] T

def ValIs (v : Value) (w : World) (e : Ending) (w' : World) : Prop := e = .returned v ∧ Below w.heap.size w w'

theorem drawingOf_any (A1 A2 : Option Addr) (n1 c1 n2 c2 : Nat) (w : World) :
    Calls Tryz.prog 135 #[.agg #[.slice A1 n1 c1, .slice A2 n2 c2]] w (ValIs (.agg #[.slice A1 n1 c1, .slice A2 n2 c2]) w) := by
  go_enter Tryz.func135, Tryz.ntmps135
  go_wp2_with fail
  refine bodyPost_ret (v := .agg #[.slice A1 n1 c1, .slice A2 n2 c2]) (by simp [results, Tryz.results135, go_sem]) rfl ⟨rfl, below2 w _ _⟩

theorem countsOk_any (A1 A2 : Option Addr) (n1 c1 n2 c2 : Nat) (w : World) :
    Calls Tryz.prog 183 #[.agg #[.slice A1 n1 c1, .slice A2 n2 c2]] w (BoolIs (decide ((1 ≤ n1 ∧ n1 ≤ 12) ∧ n2 ≤ 20)) w) := by
  generalize hr : decide ((1 ≤ n1 ∧ n1 ≤ 12) ∧ n2 ≤ 20) = r
  have HR := Lib.hid hr; clear hr
  go_enter Tryz.func183, Tryz.ntmps183
  go_wp2
  all_goals
    go_ret
    exact ⟨ret_bool (by rw [← HR.out, Bool.eq_iff_iff]; simp; omega), (Below.refl _ _).alloc (Nat.le_refl _) _⟩

set_option maxRecDepth 100000 in
theorem indexNode_any (ns : List Nd) (v : Value) (n : Nd) (w : World) (hv : Prs w v ns) (hlen : ns.length ≤ 1000000) :
    Calls Tryz.prog 220 #[v, n.val] w (fun e w' => ∃ i : Int, e = .returned (.int .i64 i) ∧ (-1 ≤ i ∧ i ≤ 1000000) ∧ (0 ≤ i ↔ ∃ k, k < ns.length ∧ n = atN ns k) ∧ Below w.heap.size w w') := by
  have HN := Lib.hid hv
  have H0 := Lib.hid (held1 w n 115)
  obtain ⟨A, c, rfl⟩ := prs_form2 hv
  clear hv
  have HQ := Lib.hid (fun k => eqNd n (atN ns k))
  have HV : n.val = .agg #[.int .i64 n.x, .int .i64 n.y] := rfl
  rw [HV]; clear HV
  unfold B1 at H0
  obtain ⟨nx, hnx⟩ : ∃ x, x = n.x := ⟨_, rfl⟩
  obtain ⟨ny, hny⟩ : ∃ x, x = n.y := ⟨_, rfl⟩
  rw [← hnx, ← hny] at H0 HQ ⊢
  have HX := Lib.hid hnx; clear hnx
  have HY := Lib.hid hny; clear hny
  go_enter Tryz.func220, Tryz.ntmps220
  go_wp2_with fail
  go_loopw [8] (fun i wr => ∃ k : Nat, k ≤ ns.length ∧ i = .int .i64 k ∧ (∀ j, j < k → n ≠ atN ns j) ∧ Held w wr [(w.heap.size, 0, .int .i64 nx), (w.heap.size, 1, .int .i64 ny)]) (fun i _ => ns.length - (intOf i).toNat)
  case atStart => exact ⟨0, Nat.zero_le _, rfl, fun j hj => by omega, H0.out⟩
  case round =>
    clear H0
    obtain ⟨k, hk, rfl, hno, hh⟩ := hrel
    have HO := Lib.hid hno; clear hno
    have H1 := Lib.hid hh; clear hh
    obtain ⟨x0, x1, _⟩ := H1.out.1
    by_cases hlt : k < ns.length
    · obtain ⟨b, o, c', he, hbl, hcs⟩ := prs_at2 (HN.out.step H1.out.below) hlt
      injection he with he1 he2 he3
      subst he1
      clear he2 he3
      obtain ⟨c0, c1⟩ := hcs k hlt
      have q := HQ.out k
      have HHI := Lib.hid (show n = atN ns k → 0 ≤ (k : Int) ∧ ∃ k, k < ns.length ∧ n = atN ns k from fun h => ⟨by omega, k, hlt, h⟩)
      have HSN := Lib.hid (fun (h : n ≠ atN ns k) => (fun j (hj : j < k + 1) => (if e : j = k then e ▸ h else HO.out j (by omega)) : ∀ j, j < k + 1 → n ≠ atN ns j))
      have HD := Lib.hid (show decide (n = atN ns k) = true ↔ n = atN ns k by simp)
      generalize decide (n = atN ns k) = d at *
      obtain ⟨nk, hnk⟩ : ∃ m, m = atN ns k := ⟨_, rfl⟩
      rw [← hnk] at c0 c1 q
      have HK := Lib.hid hnk; clear hnk hcs
      obtain ⟨kx, ky⟩ := nk
      simp only at c0 c1 q
      have hz1 : (k : Int) < (ns.length : Int) := by omega
      have hz2 : (0 : Int) ≤ k := by omega
      cases d
      · go_wp2_with fail
        go_quiet (fail)
        go_wp2_with fail
        exact ⟨⟨k + 1, by omega, by go_num, HSN.out (fun e => by have := HD.out.2 e; cases this), H1.out.drewN _⟩, by simp [intOf]; omega⟩
      · go_wp2_with fail
        go_quiet (fail)
        go_wp2_with fail
        go_ret
        exact ⟨k, rfl, by omega, ⟨fun _ => ⟨k, hlt, HD.out.1 trivial⟩, fun _ => by omega⟩, (H1.out.drewN _).below⟩
    · go_wp2_with fail
      go_ret
      exact ⟨-1, rfl, by omega, ⟨fun h => by omega, fun ⟨j, hj, e⟩ => absurd e (HO.out j (by omega))⟩, H1.out.below⟩

theorem prs_take {w : World} {A : Option Addr} {c : Nat} {xs : List Nd} (h : Prs w (.slice A xs.length c) xs) {k : Nat} (hk : k ≤ xs.length) : Prs w (.slice A k c) (xs.take k) := by
  obtain ⟨A', c', he, hl, hc, hx⟩ := h
  injection he with he1 he2 he3
  subst he1
  subst he3
  have hlen : (xs.take k).length = k := by rw [List.length_take]; omega
  refine ⟨A, c, by rw [hlen], by rw [hlen]; omega, hc, fun h0 => ?_⟩
  rw [hlen] at h0
  obtain ⟨b, o, rfl, hb, hcs⟩ := hx (by omega)
  refine ⟨b, o, rfl, hb, fun j hj => ?_⟩
  rw [hlen] at hj
  have e : atN (xs.take k) j = atN xs j := by unfold atN; simp [List.getD, List.getElem?_take, hj]
  rw [e]
  exact hcs j (by omega)

theorem atN_take {xs : List Nd} {k j : Nat} (hj : j < k) : atN (xs.take k) j = atN xs j := by unfold atN; simp [List.getD, List.getElem?_take, hj]

theorem prs_cap {w : World} {A : Option Addr} {n c : Nat} {xs : List Nd} (h : Prs w (.slice A n c) xs) : n = xs.length ∧ xs.length ≤ c ∧ c ≤ 9223372036854775807 := by
  obtain ⟨A', c', he, hl, hc, hx⟩ := h
  injection he with he1 he2 he3
  subst he3
  unfold maxLen at hc
  exact ⟨he2, hl, by omega⟩

/-- Is n among the first k? -/
def inFirst (ns : List Nd) (k : Nat) (n : Nd) : Bool := decide (∃ i, i < k ∧ atN ns i = n)

theorem inFirst_iff (ns : List Nd) (k : Nat) (n : Nd) : inFirst ns k n = true ↔ ∃ i, i < k ∧ atN ns i = n := by unfold inFirst; simp

theorem containsNode_any (ns : List Nd) (A : Option Addr) (c k : Nat) (n : Nd) (w : World) (hv : Prs w (.slice A ns.length c) ns) (hk : k ≤ ns.length) (hlen : ns.length ≤ 1000000) :
    Calls Tryz.prog 204 #[.slice A k c, n.val] w (BoolIs (inFirst ns k n) w) := by
  have hp := prs_take hv hk
  have hl2 : (ns.take k).length ≤ 1000000 := by rw [List.length_take]; omega
  have H0 := Lib.hid (held1 w n 115)
  have hlk : (ns.take k).length = k := by rw [List.length_take]; omega
  have HC := Lib.hid (fun W hb => indexNode_any (ns.take k) (.slice A k c) n W (hp.step hb) hl2)
  have HI := Lib.hid (fun (i : Int) (h : 0 ≤ i ↔ ∃ j, j < (ns.take k).length ∧ n = atN (ns.take k) j) => (show inFirst ns k n = decide (0 ≤ i) by
    rw [Bool.eq_iff_iff, inFirst_iff, decide_eq_true_iff, h, hlk]
    constructor
    · rintro ⟨j, hj, rfl⟩; exact ⟨j, hj, (atN_take hj).symm⟩
    · rintro ⟨j, hj, e⟩; exact ⟨j, hj, by rw [e, atN_take hj]⟩))
  generalize inFirst ns k n = r at *
  obtain ⟨nx, ny⟩ := n
  unfold Nd.val at HC ⊢
  unfold B1 at H0
  simp only at H0 HC
  clear hp hl2 hlk hv
  go_enter Tryz.func204, Tryz.ntmps204
  go_wp2_with fail
  refine (HC.out _ H0.out.below).mono ?_
  rintro e w1 ⟨i, rfl, hbd, hi, hb⟩
  have HH := Lib.hid (HI.out i hi); clear hi
  have H1 := Lib.hid (H0.out.step hb); clear hb
  go_wp2_with fail
  go_ret
  exact ⟨ret_bool HH.out.symm, H1.out.below⟩

theorem nodesOk_no {ns : List Nd} {k : Nat} (hk : k < ns.length) (h : okB (atN ns k) = false ∨ inFirst ns k (atN ns k) = true) : ¬ NodesOk ns ns.length := fun w => by
  obtain ⟨h1, h2⟩ := w k hk
  rcases h with h | h
  · rw [h] at h1; cases h1
  · rw [inFirst_iff] at h
    obtain ⟨i, hi, e⟩ := h
    exact h2 i hi e

theorem nodesOk_next {ns : List Nd} {k : Nat} (h : NodesOk ns k) (h1 : okB (atN ns k) = true) (h2 : inFirst ns k (atN ns k) = false) : NodesOk ns (k + 1) :=
  h.succ h1 fun i hi e => by
    have : inFirst ns k (atN ns k) = true := (inFirst_iff _ _ _).2 ⟨i, hi, e⟩
    rw [h2] at this
    cases this

set_option maxRecDepth 100000 in
theorem nodesOk_any (ns : List Nd) (v : Value) (w : World) (hv : Prs w v ns) (hlen : ns.length ≤ 12) :
    Calls Tryz.prog 184 #[v] w (BoolIs (decide (NodesOk ns ns.length)) w) := by
  have HN := Lib.hid hv
  obtain ⟨A, c, rfl⟩ := prs_form2 hv
  have hcap := prs_cap hv
  clear hv
  have HNO := Lib.hid (fun k hk h => decide_eq_false (nodesOk_no (ns := ns) (k := k) hk h))
  have HYES := Lib.hid (fun (h : NodesOk ns ns.length) => decide_eq_true h)
  generalize decide (NodesOk ns ns.length) = r at *
  obtain ⟨_, hc1, hc2⟩ := hcap
  go_enter Tryz.func184, Tryz.ntmps184
  go_wp2_with fail
  go_loopw [7] (fun i wr => ∃ k : Nat, k ≤ ns.length ∧ i = .int .i64 k ∧ NodesOk ns k ∧ Held w wr []) (fun i _ => ns.length - (intOf i).toNat)
  case atStart => exact ⟨0, Nat.zero_le _, rfl, NodesOk.zero ns, Held.none_ w⟩
  case round =>
    obtain ⟨k, hk, rfl, hok, hh⟩ := hrel
    have HO := Lib.hid hok; clear hok
    have H1 := Lib.hid hh; clear hh
    by_cases hlt : k < ns.length
    · obtain ⟨b, o, c', he, hbl, hcs⟩ := prs_at2 (HN.out.step H1.out.below) hlt
      injection he with he1 he2 he3
      subst he1
      clear he2 he3
      obtain ⟨c0, c1⟩ := hcs k hlt
      clear hcs
      have HB := Lib.hid (implOnBoard (atN ns k))
      have HCN := Lib.hid (fun w hv => containsNode_any ns (some ⟨b, o, none⟩) c k (atN ns k) w hv hk (by omega))
      have HNK := Lib.hid (HNO.out k hlt)
      have HNX := Lib.hid (fun h1 h2 => nodesOk_next HO.out h1 h2)
      generalize okB (atN ns k) = d1 at *
      generalize inFirst ns k (atN ns k) = d2 at *
      generalize atN ns k = n at *
      obtain ⟨nx, ny⟩ := n
      unfold Nd.val at HB HCN
      simp only at c0 c1 HB HCN
      have hz1 : (k : Int) < (ns.length : Int) := by omega
      have hz2 : (0 : Int) ≤ k := by omega
      have hz3 : (k : Int) ≤ (c : Int) := by omega
      have H2 := Lib.hid (H1.out.drop.new2 wr.heap.size rfl [.int .i64 nx, .int .i64 ny] 115)
      cases d1
      · go_wp2_with fail
        refine regionD (S := fun W => Held _ W [(wr.heap.size, 0, .int .i64 (nx)), (wr.heap.size, 1, .int .i64 (ny))]) (by kernel_rfl) H2.out.drew ?_
        iterate 10 (refine takeT (v := ?_) rfl (by kernel_rfl) (by kernel_rfl) (by kernel_rfl) ?_ ?_; rotate_left; (first | (refine Or.inr ⟨by rfl, ?_⟩; with_reducible rfl) | (refine Or.inl ⟨by rfl, fun W hS => detRes_value (w' := W) ?_ hS⟩; obtain ⟨x0, x1, _⟩ := hS.1; go_simp; first | done | with_reducible rfl) | (refine Or.inl ⟨by rfl, fun W hS => ?_⟩; refine detRes_call (w' := W) (f := ?_) (args := ?_) ?_ ?_; rotate_left 2; (go_simp; (refine ⟨?_, ?_⟩ <;> with_reducible rfl)); (first | (with_reducible refine (HB.out _).mono ?_) | (with_reducible refine (HCN.out _ (HN.out.step hS.below)).mono ?_) | fail); (first | (rintro e wn ⟨rfl, hb⟩; refine ⟨?_, hS.step hb⟩; with_reducible rfl) | (rintro e wn ⟨rfl, rfl⟩; refine ⟨?_, hS⟩; with_reducible rfl) | fail)) | fail); (simp only [Act.put, List.setIfInBounds_toArray, List.set_cons_zero, List.set_cons_succ]))
        refine doneD (by kernel_rfl) fun wH3 HS => ?_
        have H3 := Lib.hid HS; clear HS
        try clear x0 x1
        obtain ⟨x0, x1, _⟩ := H3.out.1
        go_wp2_with fail
        go_ret
        exact ⟨ret_bool (HNK.out (.inl trivial)).symm, H3.out.below⟩
      · cases d2
        · go_wp2_with fail
          refine regionD (S := fun W => Held _ W [(wr.heap.size, 0, .int .i64 (nx)), (wr.heap.size, 1, .int .i64 (ny))]) (by kernel_rfl) H2.out.drew ?_
          iterate 10 (refine takeT (v := ?_) rfl (by kernel_rfl) (by kernel_rfl) (by kernel_rfl) ?_ ?_; rotate_left; (first | (refine Or.inr ⟨by rfl, ?_⟩; with_reducible rfl) | (refine Or.inl ⟨by rfl, fun W hS => detRes_value (w' := W) ?_ hS⟩; obtain ⟨x0, x1, _⟩ := hS.1; go_simp; first | done | with_reducible rfl) | (refine Or.inl ⟨by rfl, fun W hS => ?_⟩; refine detRes_call (w' := W) (f := ?_) (args := ?_) ?_ ?_; rotate_left 2; (go_simp; (refine ⟨?_, ?_⟩ <;> with_reducible rfl)); (first | (with_reducible refine (HB.out _).mono ?_) | (with_reducible refine (HCN.out _ (HN.out.step hS.below)).mono ?_) | fail); (first | (rintro e wn ⟨rfl, hb⟩; refine ⟨?_, hS.step hb⟩; with_reducible rfl) | (rintro e wn ⟨rfl, rfl⟩; refine ⟨?_, hS⟩; with_reducible rfl) | fail)) | fail); (simp only [Act.put, List.setIfInBounds_toArray, List.set_cons_zero, List.set_cons_succ]))
          refine doneD (by kernel_rfl) fun wH3 HS => ?_
          have H3 := Lib.hid HS; clear HS
          try clear x0 x1
          obtain ⟨x0, x1, _⟩ := H3.out.1
          go_wp2_with fail
          exact ⟨⟨k + 1, by omega, by go_num, HNX.out trivial trivial, H3.out.drop⟩, by simp [intOf]; omega⟩
        · go_wp2_with fail
          refine regionD (S := fun W => Held _ W [(wr.heap.size, 0, .int .i64 (nx)), (wr.heap.size, 1, .int .i64 (ny))]) (by kernel_rfl) H2.out.drew ?_
          iterate 10 (refine takeT (v := ?_) rfl (by kernel_rfl) (by kernel_rfl) (by kernel_rfl) ?_ ?_; rotate_left; (first | (refine Or.inr ⟨by rfl, ?_⟩; with_reducible rfl) | (refine Or.inl ⟨by rfl, fun W hS => detRes_value (w' := W) ?_ hS⟩; obtain ⟨x0, x1, _⟩ := hS.1; go_simp; first | done | with_reducible rfl) | (refine Or.inl ⟨by rfl, fun W hS => ?_⟩; refine detRes_call (w' := W) (f := ?_) (args := ?_) ?_ ?_; rotate_left 2; (go_simp; (refine ⟨?_, ?_⟩ <;> with_reducible rfl)); (first | (with_reducible refine (HB.out _).mono ?_) | (with_reducible refine (HCN.out _ (HN.out.step hS.below)).mono ?_) | fail); (first | (rintro e wn ⟨rfl, hb⟩; refine ⟨?_, hS.step hb⟩; with_reducible rfl) | (rintro e wn ⟨rfl, rfl⟩; refine ⟨?_, hS⟩; with_reducible rfl) | fail)) | fail); (simp only [Act.put, List.setIfInBounds_toArray, List.set_cons_zero, List.set_cons_succ]))
          refine doneD (by kernel_rfl) fun wH3 HS => ?_
          have H3 := Lib.hid HS; clear HS
          try clear x0 x1
          obtain ⟨x0, x1, _⟩ := H3.out.1
          go_wp2_with fail
          go_ret
          exact ⟨ret_bool (HNK.out (.inr trivial)).symm, H3.out.below⟩
    · obtain rfl : k = ns.length := by omega
      go_wp2_with fail
      go_ret
      exact ⟨ret_bool (HYES.out HO.out).symm, H1.out.below⟩
end Go.Proofs.YtepacoacalhdcaaGreat

namespace Go.Proofs.YtepacoacalhdcaaGreat
open Go.RowKit
set_option linter.unusedVariables false
set_option linter.unusedSimpArgs false

/-- Some node other than the ends of l is on it, as the program asks. -/
def underB (ns : List Nd) (l : Nd) : Bool := decide (∃ i : Nat, i < ns.length ∧ (otherI l i < 0 ∧ onLeadB ns l (atN ns i) = true))

theorem underB_iff (ns : List Nd) (l : Nd) : underB ns l = true ↔ ∃ i : Nat, i < ns.length ∧ (otherI l i < 0 ∧ onLeadB ns l (atN ns i) = true) := by unfold underB; simp

/-- l crosses one of the first k leads. -/
def crossesB (ns ls : List Nd) (l : Nd) (k : Nat) : Bool := decide (∃ i, i < k ∧ crossB ns l (atN ls i) = true)

theorem crossesB_iff (ns ls : List Nd) (l : Nd) (k : Nat) : crossesB ns ls l k = true ↔ ∃ i, i < k ∧ crossB ns l (atN ls i) = true := by unfold crossesB; simp

/-- A boxed drawing (or window) and a boxed lead. -/
theorem held_pl (w : World) (vn vl : Value) (l : Nd) (T U : TypeId) : Held w ((w.alloc (.cells #[vn, vl] T)).alloc (.cells #[.int .i64 l.x, .int .i64 l.y] U)) [(w.heap.size + 1, 0, .int .i64 l.x), (w.heap.size + 1, 1, .int .i64 l.y), (w.heap.size, 0, vn), (w.heap.size, 1, vl)] :=
  (held_pair w vn vl T).new2 (w.heap.size + 1) (by simp) [.int .i64 l.x, .int .i64 l.y] U

set_option maxRecDepth 100000 in
theorem under_any (ns : List Nd) (vn : Value) (A2 : Option Addr) (n2 c2 : Nat) (l : Nd) (w : World) (hv : Prs w vn ns) (hlen : ns.length ≤ 1000000) :
    Calls Tryz.prog 206 #[.agg #[vn, .slice A2 n2 c2], l.val] w (BoolIs (underB ns l) w) := by
  have HN := Lib.hid hv
  obtain ⟨A, c, rfl⟩ := prs_form2 hv
  clear hv
  have H0 := Lib.hid (held_pl w (.slice A ns.length c) (.slice A2 n2 c2) l 96 151)
  have HYES := Lib.hid (fun i (hi : i < ns.length) (h1 : otherI l i < 0) (h2 : onLeadB ns l (atN ns i) = true) => (underB_iff ns l).2 ⟨i, hi, h1, h2⟩)
  have HNO := Lib.hid (fun (h : ∀ i : Nat, i < ns.length → ¬ (otherI l i < 0 ∧ onLeadB ns l (atN ns i) = true)) => (show underB ns l = false by
    cases hu : underB ns l
    · rfl
    · obtain ⟨i, hi, hh⟩ := (underB_iff ns l).1 hu
      exact absurd hh (h i hi)))
  have HOT := Lib.hid (fun i => implOther l i)
  have HON := Lib.hid (fun i w hv => implOn ns (.slice A ns.length c) l (atN ns i) w hv)
  generalize underB ns l = r at *
  obtain ⟨lx, ly⟩ := l
  unfold Nd.val at HOT HON ⊢
  simp only at H0 HOT HON
  go_enter Tryz.func206, Tryz.ntmps206
  go_wp2_with fail
  go_loopw [10] (fun i wr => ∃ k : Nat, k ≤ ns.length ∧ i = .int .i64 k ∧ (∀ j : Nat, j < k → ¬ (otherI ⟨lx, ly⟩ j < 0 ∧ onLeadB ns ⟨lx, ly⟩ (atN ns j) = true)) ∧ Held w wr [(w.heap.size + 1, 0, .int .i64 lx), (w.heap.size + 1, 1, .int .i64 ly), (w.heap.size, 0, .slice A ns.length c), (w.heap.size, 1, .slice A2 n2 c2)]) (fun i _ => ns.length - (intOf i).toNat)
  case atStart => exact ⟨0, Nat.zero_le _, rfl, fun j hj => by omega, H0.out⟩
  case round =>
    clear H0
    obtain ⟨k, hk, rfl, hok, hh⟩ := hrel
    have HO := Lib.hid hok; clear hok
    have H1 := Lib.hid hh; clear hh
    obtain ⟨x0, x1, x2, x3, _⟩ := H1.out.1
    obtain ⟨y0, _, y2, _, _⟩ := H1.out.2.1
    by_cases hlt : k < ns.length
    · obtain ⟨b, o, c', he, hbl, hcs⟩ := prs_at2 (HN.out.step H1.out.below) hlt
      injection he with he1 he2 he3
      subst he1
      clear he2 he3
      obtain ⟨c0, c1⟩ := hcs k hlt
      clear hcs
      have HOK := Lib.hid (HOT.out k)
      have HNK := Lib.hid (HON.out k)
      have HY := Lib.hid (HYES.out k hlt)
      have HSN := Lib.hid (fun (h : ¬ (otherI ⟨lx, ly⟩ k < 0 ∧ onLeadB ns ⟨lx, ly⟩ (atN ns k) = true)) => (fun j (hj : j < k + 1) => (if e : j = k then e ▸ h else HO.out j (by omega)) : ∀ j : Nat, j < k + 1 → ¬ (otherI ⟨lx, ly⟩ j < 0 ∧ onLeadB ns ⟨lx, ly⟩ (atN ns j) = true)))
      generalize onLeadB ns ⟨lx, ly⟩ (atN ns k) = d at *
      generalize otherI ⟨lx, ly⟩ k = q at *
      generalize atN ns k = n at *
      obtain ⟨nx, ny⟩ := n
      simp only at c0 c1 HNK
      have hz1 : (k : Int) < (ns.length : Int) := by omega
      have hz2 : (0 : Int) ≤ k := by omega
      have H2 := Lib.hid (H1.out.new2 wr.heap.size rfl [.int .i64 nx, .int .i64 ny] 115)
      by_cases hq : q < 0
      · cases d
        · go_wp2_with fail
          refine (HOK.out _).mono ?_
          rintro e wH3 ⟨rfl, hb⟩
          have H3 := Lib.hid ((H2.out).step hb); clear hb
          try clear x0 x1 x2 x3 x4 x5
          obtain ⟨x0, x1, x2, x3, x4, x5, _⟩ := H3.out.1
          go_wp2_with fail
          refine (HNK.out _ (HN.out.step H3.out.below)).mono ?_
          rintro e wH4 ⟨rfl, hb⟩
          have H4 := Lib.hid ((H3.out).step hb); clear hb
          try clear x0 x1 x2 x3 x4 x5
          obtain ⟨x0, x1, x2, x3, x4, x5, _⟩ := H4.out.1
          go_wp2_with fail
          exact ⟨⟨k + 1, by omega, by go_num, HSN.out (fun h => by cases h.2), H4.out.only (fun ⟨_, _, a, b, c, d, _⟩ => ⟨a, b, c, d, trivial⟩) (fun ⟨_, _, a, b, c, d, _⟩ => ⟨a, b, c, d, trivial⟩)⟩, by simp [intOf]; omega⟩
        · go_wp2_with fail
          refine (HOK.out _).mono ?_
          rintro e wH3 ⟨rfl, hb⟩
          have H3 := Lib.hid ((H2.out).step hb); clear hb
          try clear x0 x1 x2 x3 x4 x5
          obtain ⟨x0, x1, x2, x3, x4, x5, _⟩ := H3.out.1
          go_wp2_with fail
          refine (HNK.out _ (HN.out.step H3.out.below)).mono ?_
          rintro e wH4 ⟨rfl, hb⟩
          have H4 := Lib.hid ((H3.out).step hb); clear hb
          try clear x0 x1 x2 x3 x4 x5
          obtain ⟨x0, x1, x2, x3, x4, x5, _⟩ := H4.out.1
          go_wp2_with fail
          go_ret
          exact ⟨ret_bool (HY.out hq trivial).symm, H4.out.below⟩
      · go_wp2_with fail
        refine (HOK.out _).mono ?_
        rintro e wH3 ⟨rfl, hb⟩
        have H3 := Lib.hid ((H2.out).step hb); clear hb
        try clear x0 x1 x2 x3 x4 x5
        obtain ⟨x0, x1, x2, x3, x4, x5, _⟩ := H3.out.1
        go_wp2_with fail
        exact ⟨⟨k + 1, by omega, by go_num, HSN.out (fun h => absurd h.1 (by omega)), H3.out.only (fun ⟨_, _, a, b, c, d, _⟩ => ⟨a, b, c, d, trivial⟩) (fun ⟨_, _, a, b, c, d, _⟩ => ⟨a, b, c, d, trivial⟩)⟩, by simp [intOf]; omega⟩
    · obtain rfl : k = ns.length := by omega
      go_wp2_with fail
      go_ret
      exact ⟨ret_bool (HNO.out fun i hi => HO.out i hi).symm, H1.out.below⟩

set_option maxRecDepth 100000 in
theorem crosses_any (ns ls : List Nd) (vn : Value) (A2 A3 : Option Addr) (n2 c2 k c3 : Nat) (l : Nd) (w : World) (hv : Prs w vn ns) (hl : Prs w (.slice A3 ls.length c3) ls) (hk : k ≤ ls.length) (hlen : ls.length ≤ 1000000) :
    Calls Tryz.prog 207 #[.agg #[vn, .slice A2 n2 c2], l.val, .slice A3 k c3] w (BoolIs (crossesB ns ls l k) w) := by
  have HN := Lib.hid hv
  have HL := Lib.hid hl
  obtain ⟨A, c, rfl⟩ := prs_form2 hv
  clear hv hl
  have H0 := Lib.hid (held_pl w (.slice A ns.length c) (.slice A2 n2 c2) l 96 151)
  have HYES := Lib.hid (fun i (hi : i < k) (h1 : crossB ns l (atN ls i) = true) => (crossesB_iff ns ls l k).2 ⟨i, hi, h1⟩)
  have HNO := Lib.hid (fun (h : ∀ i : Nat, i < k → crossB ns l (atN ls i) = false) => (show crossesB ns ls l k = false by
    cases hu : crossesB ns ls l k
    · rfl
    · obtain ⟨i, hi, hh⟩ := (crossesB_iff ns ls l k).1 hu
      rw [h i hi] at hh
      cases hh))
  have HCR := Lib.hid (fun i w hv => implCross ns (.slice A ns.length c) l (atN ls i) w hv)
  generalize crossesB ns ls l k = r at *
  obtain ⟨lx, ly⟩ := l
  unfold Nd.val at HCR ⊢
  simp only at H0 HCR
  go_enter Tryz.func207, Tryz.ntmps207
  go_wp2_with fail
  go_loopw [11] (fun i wr => ∃ m : Nat, m ≤ k ∧ i = .int .i64 m ∧ (∀ j : Nat, j < m → crossB ns ⟨lx, ly⟩ (atN ls j) = false) ∧ Held w wr [(w.heap.size + 1, 0, .int .i64 lx), (w.heap.size + 1, 1, .int .i64 ly), (w.heap.size, 0, .slice A ns.length c), (w.heap.size, 1, .slice A2 n2 c2)]) (fun i _ => k - (intOf i).toNat)
  case atStart => exact ⟨0, Nat.zero_le _, rfl, fun j hj => by omega, H0.out⟩
  case round =>
    clear H0
    obtain ⟨m, hm, rfl, hok, hh⟩ := hrel
    have HO := Lib.hid hok; clear hok
    have H1 := Lib.hid hh; clear hh
    obtain ⟨x0, x1, x2, x3, _⟩ := H1.out.1
    obtain ⟨y0, _, y2, _, _⟩ := H1.out.2.1
    by_cases hlt : m < k
    · obtain ⟨b, o, c', he, hbl, hcs⟩ := prs_at2 (HL.out.step H1.out.below) (k := m) (by omega)
      injection he with he1 he2 he3
      subst he1
      clear he2 he3
      obtain ⟨c0, c1⟩ := hcs m (by omega)
      clear hcs
      have HX := Lib.hid (HCR.out m)
      have HY := Lib.hid (HYES.out m hlt)
      have HSN := Lib.hid (fun (h : crossB ns ⟨lx, ly⟩ (atN ls m) = false) => (fun j (hj : j < m + 1) => (if e : j = m then e ▸ h else HO.out j (by omega)) : ∀ j : Nat, j < m + 1 → crossB ns ⟨lx, ly⟩ (atN ls j) = false))
      generalize crossB ns ⟨lx, ly⟩ (atN ls m) = d at *
      generalize atN ls m = n at *
      obtain ⟨nx, ny⟩ := n
      simp only at c0 c1 HX
      have hz1 : (m : Int) < (k : Int) := by omega
      have hz2 : (0 : Int) ≤ m := by omega
      have H2 := Lib.hid (H1.out.new2 wr.heap.size rfl [.int .i64 nx, .int .i64 ny] 151)
      cases d
      · go_wp2_with fail
        refine (HX.out _ (HN.out.step H2.out.below)).mono ?_
        rintro e wH3 ⟨rfl, hb⟩
        have H3 := Lib.hid ((H2.out).step hb); clear hb
        try clear x0 x1 x2 x3 x4 x5
        obtain ⟨x0, x1, x2, x3, x4, x5, _⟩ := H3.out.1
        go_wp2_with fail
        exact ⟨⟨m + 1, by omega, by go_num, HSN.out trivial, H3.out.only (fun ⟨_, _, a, b, c, d, _⟩ => ⟨a, b, c, d, trivial⟩) (fun ⟨_, _, a, b, c, d, _⟩ => ⟨a, b, c, d, trivial⟩)⟩, by simp [intOf]; omega⟩
      · go_wp2_with fail
        refine (HX.out _ (HN.out.step H2.out.below)).mono ?_
        rintro e wH3 ⟨rfl, hb⟩
        have H3 := Lib.hid ((H2.out).step hb); clear hb
        try clear x0 x1 x2 x3 x4 x5
        obtain ⟨x0, x1, x2, x3, x4, x5, _⟩ := H3.out.1
        go_wp2_with fail
        go_ret
        exact ⟨ret_bool (HY.out trivial).symm, H3.out.below⟩
    · obtain rfl : m = k := by omega
      go_wp2_with fail
      go_ret
      exact ⟨ret_bool (HNO.out fun i hi => HO.out i hi).symm, H1.out.below⟩

theorem other_neg {ns : List Nd} {l : Nd} (h : leadOkB ns l = true) (i : Nat) : otherI l i < 0 ↔ (i : Int) ≠ l.x ∧ (i : Int) ≠ l.y := by
  obtain ⟨a, b, rfl, _⟩ := leadOkB_spec h
  unfold otherI
  simp only
  by_cases h1 : (i : Int) = a
  · rw [if_pos h1]; omega
  · rw [if_neg h1]
    by_cases h2 : (i : Int) = b
    · rw [if_pos h2]; omega
    · rw [if_neg h2]; omega

theorem leads_no {ns ls : List Nd} {k : Nat} (hk : k < ls.length) (h : leadOkB ns (atN ls k) = false ∨ (leadOkB ns (atN ls k) = true ∧ underB ns (atN ls k) = true) ∨ crossesB ns ls (atN ls k) k = true) : ¬ LeadsOk ns ls ls.length := fun w => by
  obtain ⟨h1, h2, h3⟩ := w k hk
  rcases h with h | ⟨hv, h⟩ | h
  · rw [h] at h1; cases h1
  · obtain ⟨i, hi, ho, hon⟩ := (underB_iff _ _).1 h
    obtain ⟨hx, hy⟩ := (other_neg hv i).1 ho
    rw [h3 i hi hx hy] at hon
    cases hon
  · obtain ⟨i, hi, hc⟩ := (crossesB_iff _ _ _ _).1 h
    rw [cross_comm, h2 i hi] at hc
    cases hc

theorem leads_next {ns ls : List Nd} {k : Nat} (h : LeadsOk ns ls k) (h1 : leadOkB ns (atN ls k) = true) (h2 : underB ns (atN ls k) = false) (h3 : crossesB ns ls (atN ls k) k = false) : LeadsOk ns ls (k + 1) := by
  refine h.succ h1 (fun i hi => ?_) (fun i hi hx hy => ?_)
  · cases hc : crossB ns (atN ls i) (atN ls k)
    · rfl
    · rw [cross_comm] at hc
      have : crossesB ns ls (atN ls k) k = true := (crossesB_iff _ _ _ _).2 ⟨i, hi, hc⟩
      rw [h3] at this
      cases this
  · cases hc : onLeadB ns (atN ls k) (atN ns i)
    · rfl
    · have : underB ns (atN ls k) = true := (underB_iff _ _).2 ⟨i, hi, (other_neg h1 i).2 ⟨hx, hy⟩, hc⟩
      rw [h2] at this
      cases this

set_option maxRecDepth 100000 in
theorem leadsOk_any (ns ls : List Nd) (vn vl : Value) (w : World) (hv : Prs w vn ns) (hl : Prs w vl ls) (hlen : ns.length ≤ 12) (hlen2 : ls.length ≤ 20) :
    Calls Tryz.prog 185 #[.agg #[vn, vl]] w (BoolIs (decide (LeadsOk ns ls ls.length)) w) := by
  have HN := Lib.hid hv
  have HL := Lib.hid hl
  obtain ⟨A, c, rfl⟩ := prs_form2 hv
  obtain ⟨A2, c2, rfl⟩ := prs_form2 hl
  have hcap := prs_cap hl
  clear hv hl
  have H0 := Lib.hid (held_pair w (.slice A ns.length c) (.slice A2 ls.length c2) 96)
  have HNO := Lib.hid (fun k hk h => decide_eq_false (leads_no (ns := ns) (ls := ls) (k := k) hk h))
  have HYES := Lib.hid (fun (h : LeadsOk ns ls ls.length) => decide_eq_true h)
  generalize decide (LeadsOk ns ls ls.length) = r at *
  obtain ⟨_, hc1, hc2⟩ := hcap
  go_enter Tryz.func185, Tryz.ntmps185
  go_wp2_with fail
  go_loopw [8] (fun i wr => ∃ k : Nat, k ≤ ls.length ∧ i = .int .i64 k ∧ LeadsOk ns ls k ∧ Held w wr [(w.heap.size, 0, .slice A ns.length c), (w.heap.size, 1, .slice A2 ls.length c2)]) (fun i _ => ls.length - (intOf i).toNat)
  case atStart => exact ⟨0, Nat.zero_le _, rfl, LeadsOk.zero ns ls, H0.out⟩
  case round =>
    clear H0
    obtain ⟨k, hk, rfl, hok, hh⟩ := hrel
    have HO := Lib.hid hok; clear hok
    have H1 := Lib.hid hh; clear hh
    obtain ⟨x0, x1, _⟩ := H1.out.1
    obtain ⟨y0, _, _⟩ := H1.out.2.1
    by_cases hlt : k < ls.length
    · obtain ⟨b, o, c', he, hbl, hcs⟩ := prs_at2 (HL.out.step H1.out.below) hlt
      injection he with he1 he2 he3
      subst he1
      clear he2 he3
      obtain ⟨c0, c1⟩ := hcs k hlt
      clear hcs
      have HA := Lib.hid (fun w hv => implLeadOk ns (.slice A ns.length c) (atN ls k) w hv)
      have HB := Lib.hid (fun w hv => under_any ns (.slice A ns.length c) (some ⟨b, o, none⟩) ls.length c2 (atN ls k) w hv (by omega))
      have HC := Lib.hid (fun w hv hl => crosses_any ns ls (.slice A ns.length c) (some ⟨b, o, none⟩) (some ⟨b, o, none⟩) ls.length c2 k c2 (atN ls k) w hv hl hk (by omega))
      have HNK := Lib.hid (HNO.out k hlt)
      have HNX := Lib.hid (fun h1 h2 h3 => leads_next HO.out h1 h2 h3)
      generalize leadOkB ns (atN ls k) = d1 at *
      generalize underB ns (atN ls k) = d2 at *
      generalize crossesB ns ls (atN ls k) k = d3 at *
      generalize atN ls k = n at *
      obtain ⟨nx, ny⟩ := n
      unfold Nd.val at HA HB HC
      simp only at c0 c1 HA HB HC
      have hz1 : (k : Int) < (ls.length : Int) := by omega
      have hz2 : (0 : Int) ≤ k := by omega
      have hz3 : (k : Int) ≤ (c2 : Int) := by omega
      have H2 := Lib.hid (H1.out.new2 wr.heap.size rfl [.int .i64 nx, .int .i64 ny] 151)
      cases d1
      · go_wp2_with fail
        refine regionD (S := fun W => Held _ W [(wr.heap.size, 0, .int .i64 (nx)), (wr.heap.size, 1, .int .i64 (ny)), (w.heap.size, 0, .slice A ns.length c), (w.heap.size, 1, .slice (some ⟨b, o, none⟩) ls.length c2)]) (by kernel_rfl) H2.out.drew ?_
        iterate 19 (refine takeT (v := ?_) rfl (by kernel_rfl) (by kernel_rfl) (by kernel_rfl) ?_ ?_; rotate_left; (first | (refine Or.inr ⟨by rfl, ?_⟩; with_reducible rfl) | (refine Or.inl ⟨by rfl, fun W hS => detRes_value (w' := W) ?_ hS⟩; obtain ⟨x0, x1, x2, x3, _⟩ := hS.1; go_simp; first | done | with_reducible rfl) | (refine Or.inl ⟨by rfl, fun W hS => ?_⟩; refine detRes_call (w' := W) (f := ?_) (args := ?_) ?_ ?_; rotate_left 2; (go_simp; (refine ⟨?_, ?_⟩ <;> with_reducible rfl)); (first | (with_reducible refine (HA.out _ (HN.out.step hS.below)).mono ?_) | (with_reducible refine (HB.out _ (HN.out.step hS.below)).mono ?_) | (with_reducible refine (HC.out _ (HN.out.step hS.below) (HL.out.step hS.below)).mono ?_) | fail); (first | (rintro e wn ⟨rfl, hb⟩; refine ⟨?_, hS.step hb⟩; with_reducible rfl) | (rintro e wn ⟨rfl, rfl⟩; refine ⟨?_, hS⟩; with_reducible rfl) | fail)) | fail); (simp only [Act.put, List.setIfInBounds_toArray, List.set_cons_zero, List.set_cons_succ]))
        refine doneD (by kernel_rfl) fun wH3 HS => ?_
        have H3 := Lib.hid HS; clear HS
        try clear x0 x1 x2 x3
        obtain ⟨x0, x1, x2, x3, _⟩ := H3.out.1
        go_wp2_with fail
        go_ret
        exact ⟨ret_bool (HNK.out (.inl trivial)).symm, H3.out.below⟩
      cases d2
      case true =>
        go_wp2_with fail
        refine regionD (S := fun W => Held _ W [(wr.heap.size, 0, .int .i64 (nx)), (wr.heap.size, 1, .int .i64 (ny)), (w.heap.size, 0, .slice A ns.length c), (w.heap.size, 1, .slice (some ⟨b, o, none⟩) ls.length c2)]) (by kernel_rfl) H2.out.drew ?_
        iterate 19 (refine takeT (v := ?_) rfl (by kernel_rfl) (by kernel_rfl) (by kernel_rfl) ?_ ?_; rotate_left; (first | (refine Or.inr ⟨by rfl, ?_⟩; with_reducible rfl) | (refine Or.inl ⟨by rfl, fun W hS => detRes_value (w' := W) ?_ hS⟩; obtain ⟨x0, x1, x2, x3, _⟩ := hS.1; go_simp; first | done | with_reducible rfl) | (refine Or.inl ⟨by rfl, fun W hS => ?_⟩; refine detRes_call (w' := W) (f := ?_) (args := ?_) ?_ ?_; rotate_left 2; (go_simp; (refine ⟨?_, ?_⟩ <;> with_reducible rfl)); (first | (with_reducible refine (HA.out _ (HN.out.step hS.below)).mono ?_) | (with_reducible refine (HB.out _ (HN.out.step hS.below)).mono ?_) | (with_reducible refine (HC.out _ (HN.out.step hS.below) (HL.out.step hS.below)).mono ?_) | fail); (first | (rintro e wn ⟨rfl, hb⟩; refine ⟨?_, hS.step hb⟩; with_reducible rfl) | (rintro e wn ⟨rfl, rfl⟩; refine ⟨?_, hS⟩; with_reducible rfl) | fail)) | fail); (simp only [Act.put, List.setIfInBounds_toArray, List.set_cons_zero, List.set_cons_succ]))
        refine doneD (by kernel_rfl) fun wH3 HS => ?_
        have H3 := Lib.hid HS; clear HS
        try clear x0 x1 x2 x3
        obtain ⟨x0, x1, x2, x3, _⟩ := H3.out.1
        go_wp2_with fail
        go_ret
        exact ⟨ret_bool (HNK.out (.inr (.inl ⟨trivial, trivial⟩))).symm, H3.out.below⟩
      cases d3
      · go_wp2_with fail
        refine regionD (S := fun W => Held _ W [(wr.heap.size, 0, .int .i64 (nx)), (wr.heap.size, 1, .int .i64 (ny)), (w.heap.size, 0, .slice A ns.length c), (w.heap.size, 1, .slice (some ⟨b, o, none⟩) ls.length c2)]) (by kernel_rfl) H2.out.drew ?_
        iterate 19 (refine takeT (v := ?_) rfl (by kernel_rfl) (by kernel_rfl) (by kernel_rfl) ?_ ?_; rotate_left; (first | (refine Or.inr ⟨by rfl, ?_⟩; with_reducible rfl) | (refine Or.inl ⟨by rfl, fun W hS => detRes_value (w' := W) ?_ hS⟩; obtain ⟨x0, x1, x2, x3, _⟩ := hS.1; go_simp; first | done | with_reducible rfl) | (refine Or.inl ⟨by rfl, fun W hS => ?_⟩; refine detRes_call (w' := W) (f := ?_) (args := ?_) ?_ ?_; rotate_left 2; (go_simp; (refine ⟨?_, ?_⟩ <;> with_reducible rfl)); (first | (with_reducible refine (HA.out _ (HN.out.step hS.below)).mono ?_) | (with_reducible refine (HB.out _ (HN.out.step hS.below)).mono ?_) | (with_reducible refine (HC.out _ (HN.out.step hS.below) (HL.out.step hS.below)).mono ?_) | fail); (first | (rintro e wn ⟨rfl, hb⟩; refine ⟨?_, hS.step hb⟩; with_reducible rfl) | (rintro e wn ⟨rfl, rfl⟩; refine ⟨?_, hS⟩; with_reducible rfl) | fail)) | fail); (simp only [Act.put, List.setIfInBounds_toArray, List.set_cons_zero, List.set_cons_succ]))
        refine doneD (by kernel_rfl) fun wH3 HS => ?_
        have H3 := Lib.hid HS; clear HS
        try clear x0 x1 x2 x3
        obtain ⟨x0, x1, x2, x3, _⟩ := H3.out.1
        go_wp2_with fail
        exact ⟨⟨k + 1, by omega, by go_num, HNX.out trivial trivial trivial, H3.out.only (fun ⟨_, _, a, b, _⟩ => ⟨a, b, trivial⟩) (fun ⟨_, _, a, b, _⟩ => ⟨a, b, trivial⟩)⟩, by simp [intOf]; omega⟩
      · go_wp2_with fail
        refine regionD (S := fun W => Held _ W [(wr.heap.size, 0, .int .i64 (nx)), (wr.heap.size, 1, .int .i64 (ny)), (w.heap.size, 0, .slice A ns.length c), (w.heap.size, 1, .slice (some ⟨b, o, none⟩) ls.length c2)]) (by kernel_rfl) H2.out.drew ?_
        iterate 19 (refine takeT (v := ?_) rfl (by kernel_rfl) (by kernel_rfl) (by kernel_rfl) ?_ ?_; rotate_left; (first | (refine Or.inr ⟨by rfl, ?_⟩; with_reducible rfl) | (refine Or.inl ⟨by rfl, fun W hS => detRes_value (w' := W) ?_ hS⟩; obtain ⟨x0, x1, x2, x3, _⟩ := hS.1; go_simp; first | done | with_reducible rfl) | (refine Or.inl ⟨by rfl, fun W hS => ?_⟩; refine detRes_call (w' := W) (f := ?_) (args := ?_) ?_ ?_; rotate_left 2; (go_simp; (refine ⟨?_, ?_⟩ <;> with_reducible rfl)); (first | (with_reducible refine (HA.out _ (HN.out.step hS.below)).mono ?_) | (with_reducible refine (HB.out _ (HN.out.step hS.below)).mono ?_) | (with_reducible refine (HC.out _ (HN.out.step hS.below) (HL.out.step hS.below)).mono ?_) | fail); (first | (rintro e wn ⟨rfl, hb⟩; refine ⟨?_, hS.step hb⟩; with_reducible rfl) | (rintro e wn ⟨rfl, rfl⟩; refine ⟨?_, hS⟩; with_reducible rfl) | fail)) | fail); (simp only [Act.put, List.setIfInBounds_toArray, List.set_cons_zero, List.set_cons_succ]))
        refine doneD (by kernel_rfl) fun wH3 HS => ?_
        have H3 := Lib.hid HS; clear HS
        try clear x0 x1 x2 x3
        obtain ⟨x0, x1, x2, x3, _⟩ := H3.out.1
        go_wp2_with fail
        go_ret
        exact ⟨ret_bool (HNK.out (.inr (.inr trivial))).symm, H3.out.below⟩
    · obtain rfl : k = ls.length := by omega
      go_wp2_with fail
      go_ret
      exact ⟨ret_bool (HYES.out HO.out).symm, H1.out.below⟩

theorem implWin (ns ls : List Nd) (vn vl : Value) (w : World) (hn : Prs w vn ns) (hl : Prs w vl ls) :
    Calls Tryz.prog 151 #[.agg #[vn, vl]] w (BoolIs (winB ns ls) w) := by
  have HN := Lib.hid hn
  have HL := Lib.hid hl
  obtain ⟨A, c, rfl⟩ := prs_form2 hn
  obtain ⟨A2, c2, rfl⟩ := prs_form2 hl
  clear hn hl
  have hr : winB ns ls = (decide ((1 ≤ ns.length ∧ ns.length ≤ 12) ∧ ls.length ≤ 20) && decide (NodesOk ns ns.length) && decide (LeadsOk ns ls ls.length)) := by
    rw [Bool.eq_iff_iff, winB_iff]; unfold WinOk; simp [and_assoc]
  have HR := Lib.hid hr; clear hr
  generalize winB ns ls = r at *
  have H0 := Lib.hid (held_pair w (.slice A ns.length c) (.slice A2 ls.length c2) 32)
  have HD := Lib.hid (drawingOf_any A A2 ns.length c ls.length c2)
  have HC := Lib.hid (countsOk_any A A2 ns.length c ls.length c2)
  unfold ValIs at HD
  by_cases h1 : (1 ≤ ns.length ∧ ns.length ≤ 12) ∧ ls.length ≤ 20
  case neg =>
    rw [decide_eq_false h1] at HC HR
    clear h1
    go_enter Tryz.func151, Tryz.ntmps151
    go_wp2_with fail
    refine (HD.out _).mono ?_
    rintro e wH1 ⟨rfl, hb⟩
    have H1 := Lib.hid ((H0.out).step hb); clear hb
    try clear x0 x1
    obtain ⟨x0, x1, _⟩ := H1.out.1
    go_wp2_with fail
    refine (HC.out _).mono ?_
    rintro e wH2 ⟨rfl, hb⟩
    have H2 := Lib.hid ((H1.out.alloc _).step hb); clear hb
    try clear x0 x1
    obtain ⟨x0, x1, _⟩ := H2.out.1
    go_wp2_with fail
    go_ret
    exact ⟨ret_bool (by rw [HR.out]; simp), H2.out.below⟩
  rw [decide_eq_true h1] at HC HR
  have HA := Lib.hid (fun w hv => nodesOk_any ns (.slice A ns.length c) w hv h1.1.2)
  have HB := Lib.hid (fun w hv hl => leadsOk_any ns ls (.slice A ns.length c) (.slice A2 ls.length c2) w hv hl h1.1.2 h1.2)
  clear h1
  generalize decide (NodesOk ns ns.length) = d1 at *
  generalize decide (LeadsOk ns ls ls.length) = d2 at *
  cases d1
  · go_enter Tryz.func151, Tryz.ntmps151
    go_wp2_with fail
    refine (HD.out _).mono ?_
    rintro e wH1 ⟨rfl, hb⟩
    have H1 := Lib.hid ((H0.out).step hb); clear hb
    try clear x0 x1
    obtain ⟨x0, x1, _⟩ := H1.out.1
    go_wp2_with fail
    refine (HC.out _).mono ?_
    rintro e wH2 ⟨rfl, hb⟩
    have H2 := Lib.hid (((H1.out.drop.new2 wH1.heap.size rfl [.slice A ns.length c, .slice A2 ls.length c2] 96)).step hb); clear hb
    try clear x0 x1
    obtain ⟨x0, x1, _⟩ := H2.out.1
    go_wp2_with fail
    refine (HA.out _ (HN.out.step H2.out.below)).mono ?_
    rintro e wH3 ⟨rfl, hb⟩
    have H3 := Lib.hid ((H2.out).step hb); clear hb
    try clear x0 x1
    obtain ⟨x0, x1, _⟩ := H3.out.1
    go_wp2_with fail
    go_ret
    exact ⟨ret_bool (by rw [HR.out]; simp), H3.out.below⟩
  · go_enter Tryz.func151, Tryz.ntmps151
    go_wp2_with fail
    refine (HD.out _).mono ?_
    rintro e wH1 ⟨rfl, hb⟩
    have H1 := Lib.hid ((H0.out).step hb); clear hb
    try clear x0 x1
    obtain ⟨x0, x1, _⟩ := H1.out.1
    go_wp2_with fail
    refine (HC.out _).mono ?_
    rintro e wH2 ⟨rfl, hb⟩
    have H2 := Lib.hid (((H1.out.drop.new2 wH1.heap.size rfl [.slice A ns.length c, .slice A2 ls.length c2] 96)).step hb); clear hb
    try clear x0 x1
    obtain ⟨x0, x1, _⟩ := H2.out.1
    go_wp2_with fail
    refine (HA.out _ (HN.out.step H2.out.below)).mono ?_
    rintro e wH3 ⟨rfl, hb⟩
    have H3 := Lib.hid ((H2.out).step hb); clear hb
    try clear x0 x1
    obtain ⟨x0, x1, _⟩ := H3.out.1
    go_wp2_with fail
    refine (HB.out _ (HN.out.step H3.out.below) (HL.out.step H3.out.below)).mono ?_
    rintro e wH4 ⟨rfl, hb⟩
    have H4 := Lib.hid ((H3.out).step hb); clear hb
    try clear x0 x1
    obtain ⟨x0, x1, _⟩ := H4.out.1
    go_wp2_with fail
    go_ret
    exact ⟨ret_bool (by rw [HR.out]; simp), H4.out.below⟩
end Go.Proofs.YtepacoacalhdcaaGreat
