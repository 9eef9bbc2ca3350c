/-
  What the program's WindowOk returns.
-/
import Derived.Test.YtmcbbjobjogkmaaGreatImplLead
import Derived.Test.YtmcbbjobjogkmaaGreatG1
import Derived.LoopTactic
import Derived.Outline
import Derived.Deep.QuietTactic
import Derived.BigQuiet
namespace Go.Proofs.YtmcbbjobjogkmaaGreat
open Go.RowKit
set_option linter.unusedVariables false
set_option linter.unusedSimpArgs false

theorem held_plus {w W : World} {fs gs : List (Nat × Nat × Value)} (h : Held w W fs) (hc : Cs W gs) (hb : Bs W.heap.size gs) : Held w W (fs ++ gs) :=
  ⟨h.1.append hc, h.2.1.append hb, h.2.2⟩

/-- A boxed pair of slices. -/
theorem held_pair (w : World) (vn vl : Value) (T : TypeId) : Held w (w.alloc (.cells #[vn, vl] T)) [(w.heap.size, 0, vn), (w.heap.size, 1, vl)] := (Held.none_ w).new2 w.heap.size rfl [vn, vl] T

def ValIs (v : Value) (w : World) (e : Ending) (w' : World) : Prop := e = .returned v ∧ Below w.heap.size w w'

theorem drawingOf_any (A1 A2 : Option Addr) (n1 c1 n2 c2 : Nat) (w : World) :
    Calls Tryz.prog 97 #[.agg #[.slice A1 n1 c1, .slice A2 n2 c2]] w (ValIs (.agg #[.slice A1 n1 c1, .slice A2 n2 c2]) w) := by
  go_enter Tryz.func97, Tryz.ntmps97
  go_wp2_with fail
  refine bodyPost_ret (v := .agg #[.slice A1 n1 c1, .slice A2 n2 c2]) (by simp [results, Tryz.results97, go_sem]) rfl ⟨rfl, below2 w _ _⟩

theorem countsOk_any (A1 A2 : Option Addr) (n1 c1 n2 c2 : Nat) (w : World) :
    Calls Tryz.prog 143 #[.agg #[.slice A1 n1 c1, .slice A2 n2 c2]] w (BoolIs (decide ((1 ≤ n1 ∧ n1 ≤ 12) ∧ n2 ≤ 20)) w) := by
  generalize hr : decide ((1 ≤ n1 ∧ n1 ≤ 12) ∧ n2 ≤ 20) = r
  have HR := Lib.hid hr; clear hr
  go_enter Tryz.func143, Tryz.ntmps143
  go_wp2
  all_goals
    go_ret
    exact ⟨ret_bool (by rw [← HR.out, Bool.eq_iff_iff]; simp; omega), (Below.refl _ _).alloc (Nat.le_refl _) _⟩

set_option maxRecDepth 100000 in
theorem indexNode_any (ns : List Nd) (v : Value) (n : Nd) (w : World) (hv : Prs w v ns) (hlen : ns.length ≤ 1000000) :
    Calls Tryz.prog 178 #[v, n.val] w (fun e w' => ∃ i : Int, e = .returned (.int .i64 i) ∧ (-1 ≤ i ∧ i ≤ 1000000) ∧ (0 ≤ i ↔ ∃ k, k < ns.length ∧ n = atN ns k) ∧ Below w.heap.size w w') := by
  have HN := Lib.hid hv
  have H0 := Lib.hid (held1 w n 75)
  obtain ⟨A, c, rfl⟩ := prs_form2 hv
  clear hv
  have HQ := Lib.hid (fun k => eqNd n (atN ns k))
  have HV : n.val = .agg #[.int .i64 n.x, .int .i64 n.y] := rfl
  rw [HV]; clear HV
  unfold B1 at H0
  obtain ⟨nx, hnx⟩ : ∃ x, x = n.x := ⟨_, rfl⟩
  obtain ⟨ny, hny⟩ : ∃ x, x = n.y := ⟨_, rfl⟩
  rw [← hnx, ← hny] at H0 HQ ⊢
  have HX := Lib.hid hnx; clear hnx
  have HY := Lib.hid hny; clear hny
  go_enter Tryz.func178, Tryz.ntmps178
  go_wp2_with fail
  go_loopw [8] (fun i wr => ∃ k : Nat, k ≤ ns.length ∧ i = .int .i64 k ∧ (∀ j, j < k → n ≠ atN ns j) ∧ Held w wr [(w.heap.size, 0, .int .i64 nx), (w.heap.size, 1, .int .i64 ny)]) (fun i _ => ns.length - (intOf i).toNat)
  case atStart => exact ⟨0, Nat.zero_le _, rfl, fun j hj => by omega, H0.out⟩
  case round =>
    clear H0
    obtain ⟨k, hk, rfl, hno, hh⟩ := hrel
    have HO := Lib.hid hno; clear hno
    have H1 := Lib.hid hh; clear hh
    obtain ⟨x0, x1, _⟩ := H1.out.1
    by_cases hlt : k < ns.length
    · obtain ⟨b, o, c', he, hbl, hcs⟩ := prs_at2 (HN.out.step H1.out.below) hlt
      injection he with he1 he2 he3
      subst he1
      clear he2 he3
      obtain ⟨c0, c1⟩ := hcs k hlt
      have q := HQ.out k
      have HHI := Lib.hid (show n = atN ns k → 0 ≤ (k : Int) ∧ ∃ k, k < ns.length ∧ n = atN ns k from fun h => ⟨by omega, k, hlt, h⟩)
      have HSN := Lib.hid (fun (h : n ≠ atN ns k) => (fun j (hj : j < k + 1) => (if e : j = k then e ▸ h else HO.out j (by omega)) : ∀ j, j < k + 1 → n ≠ atN ns j))
      have HD := Lib.hid (show decide (n = atN ns k) = true ↔ n = atN ns k by simp)
      generalize decide (n = atN ns k) = d at *
      obtain ⟨nk, hnk⟩ : ∃ m, m = atN ns k := ⟨_, rfl⟩
      rw [← hnk] at c0 c1 q
      have HK := Lib.hid hnk; clear hnk hcs
      obtain ⟨kx, ky⟩ := nk
      simp only at c0 c1 q
      have hz1 : (k : Int) < (ns.length : Int) := by omega
      have hz2 : (0 : Int) ≤ k := by omega
      cases d
      · go_wp2_with fail
        go_quiet (fail)
        go_wp2_with fail
        exact ⟨⟨k + 1, by omega, by go_num, HSN.out (fun e => by have := HD.out.2 e; cases this), H1.out.drewN _⟩, by simp [intOf]; omega⟩
      · go_wp2_with fail
        go_quiet (fail)
        go_wp2_with fail
        go_ret
        exact ⟨k, rfl, by omega, ⟨fun _ => ⟨k, hlt, HD.out.1 trivial⟩, fun _ => by omega⟩, (H1.out.drewN _).below⟩
    · go_wp2_with fail
      go_ret
      exact ⟨-1, rfl, by omega, ⟨fun h => by omega, fun ⟨j, hj, e⟩ => absurd e (HO.out j (by omega))⟩, H1.out.below⟩

theorem prs_take {w : World} {A : Option Addr} {c : Nat} {xs : List Nd} (h : Prs w (.slice A xs.length c) xs) {k : Nat} (hk : k ≤ xs.length) : Prs w (.slice A k c) (xs.take k) := by
  obtain ⟨A', c', he, hl, hc, hx⟩ := h
  injection he with he1 he2 he3
  subst he1
  subst he3
  have hlen : (xs.take k).length = k := by rw [List.length_take]; omega
  refine ⟨A, c, by rw [hlen], by rw [hlen]; omega, hc, fun h0 => ?_⟩
  rw [hlen] at h0
  obtain ⟨b, o, rfl, hb, hcs⟩ := hx (by omega)
  refine ⟨b, o, rfl, hb, fun j hj => ?_⟩
  rw [hlen] at hj
  have e : atN (xs.take k) j = atN xs j := by unfold atN; simp [List.getD, List.getElem?_take, hj]
  rw [e]
  exact hcs j (by omega)

theorem atN_take {xs : List Nd} {k j : Nat} (hj : j < k) : atN (xs.take k) j = atN xs j := by unfold atN; simp [List.getD, List.getElem?_take, hj]

theorem prs_cap {w : World} {A : Option Addr} {n c : Nat} {xs : List Nd} (h : Prs w (.slice A n c) xs) : n = xs.length ∧ xs.length ≤ c ∧ c ≤ 9223372036854775807 := by
  obtain ⟨A', c', he, hl, hc, hx⟩ := h
  injection he with he1 he2 he3
  subst he3
  unfold maxLen at hc
  exact ⟨he2, hl, by omega⟩

/-- Is n among the first k? -/
def inFirst (ns : List Nd) (k : Nat) (n : Nd) : Bool := decide (∃ i, i < k ∧ atN ns i = n)

theorem inFirst_iff (ns : List Nd) (k : Nat) (n : Nd) : inFirst ns k n = true ↔ ∃ i, i < k ∧ atN ns i = n := by unfold inFirst; simp

theorem containsNode_any (ns : List Nd) (A : Option Addr) (c k : Nat) (n : Nd) (w : World) (hv : Prs w (.slice A ns.length c) ns) (hk : k ≤ ns.length) (hlen : ns.length ≤ 1000000) :
    Calls Tryz.prog 164 #[.slice A k c, n.val] w (BoolIs (inFirst ns k n) w) := by
  have hp := prs_take hv hk
  have hl2 : (ns.take k).length ≤ 1000000 := by rw [List.length_take]; omega
  have H0 := Lib.hid (held1 w n 75)
  have hlk : (ns.take k).length = k := by rw [List.length_take]; omega
  have HC := Lib.hid (fun W hb => indexNode_any (ns.take k) (.slice A k c) n W (hp.step hb) hl2)
  have HI := Lib.hid (fun (i : Int) (h : 0 ≤ i ↔ ∃ j, j < (ns.take k).length ∧ n = atN (ns.take k) j) => (show inFirst ns k n = decide (0 ≤ i) by
    rw [Bool.eq_iff_iff, inFirst_iff, decide_eq_true_iff, h, hlk]
    constructor
    · rintro ⟨j, hj, rfl⟩; exact ⟨j, hj, (atN_take hj).symm⟩
    · rintro ⟨j, hj, e⟩; exact ⟨j, hj, by rw [e, atN_take hj]⟩))
  generalize inFirst ns k n = r at *
  obtain ⟨nx, ny⟩ := n
  unfold Nd.val at HC ⊢
  unfold B1 at H0
  simp only at H0 HC
  clear hp hl2 hlk hv
  go_enter Tryz.func164, Tryz.ntmps164
  go_wp2_with fail
  refine (HC.out _ H0.out.below).mono ?_
  rintro e w1 ⟨i, rfl, hbd, hi, hb⟩
  have HH := Lib.hid (HI.out i hi); clear hi
  have H1 := Lib.hid (H0.out.step hb); clear hb
  go_wp2_with fail
  go_ret
  exact ⟨ret_bool HH.out.symm, H1.out.below⟩

theorem nodesOk_no {ns : List Nd} {k : Nat} (hk : k < ns.length) (h : okB (atN ns k) = false ∨ inFirst ns k (atN ns k) = true) : ¬ NodesOk ns ns.length := fun w => by
  obtain ⟨h1, h2⟩ := w k hk
  rcases h with h | h
  · rw [h] at h1; cases h1
  · rw [inFirst_iff] at h
    obtain ⟨i, hi, e⟩ := h
    exact h2 i hi e

theorem nodesOk_next {ns : List Nd} {k : Nat} (h : NodesOk ns k) (h1 : okB (atN ns k) = true) (h2 : inFirst ns k (atN ns k) = false) : NodesOk ns (k + 1) :=
  h.succ h1 fun i hi e => by
    have : inFirst ns k (atN ns k) = true := (inFirst_iff _ _ _).2 ⟨i, hi, e⟩
    rw [h2] at this
    cases this

set_option maxRecDepth 100000 in
theorem nodesOk_any (ns : List Nd) (v : Value) (w : World) (hv : Prs w v ns) (hlen : ns.length ≤ 12) :
    Calls Tryz.prog 144 #[v] w (BoolIs (decide (NodesOk ns ns.length)) w) := by
  have HN := Lib.hid hv
  obtain ⟨A, c, rfl⟩ := prs_form2 hv
  have hcap := prs_cap hv
  clear hv
  have HNO := Lib.hid (fun k hk h => decide_eq_false (nodesOk_no (ns := ns) (k := k) hk h))
  have HYES := Lib.hid (fun (h : NodesOk ns ns.length) => decide_eq_true h)
  generalize decide (NodesOk ns ns.length) = r at *
  obtain ⟨_, hc1, hc2⟩ := hcap
  go_enter Tryz.func144, Tryz.ntmps144
  go_wp2_with fail
  go_loopw [7] (fun i wr => ∃ k : Nat, k ≤ ns.length ∧ i = .int .i64 k ∧ NodesOk ns k ∧ Held w wr []) (fun i _ => ns.length - (intOf i).toNat)
  case atStart => exact ⟨0, Nat.zero_le _, rfl, NodesOk.zero ns, Held.none_ w⟩
  case round =>
    obtain ⟨k, hk, rfl, hok, hh⟩ := hrel
    have HO := Lib.hid hok; clear hok
    have H1 := Lib.hid hh; clear hh
    by_cases hlt : k < ns.length
    · obtain ⟨b, o, c', he, hbl, hcs⟩ := prs_at2 (HN.out.step H1.out.below) hlt
      injection he with he1 he2 he3
      subst he1
      clear he2 he3
      obtain ⟨c0, c1⟩ := hcs k hlt
      clear hcs
      have HB := Lib.hid (implOnBoard (atN ns k))
      have HCN := Lib.hid (fun w hv => containsNode_any ns (some ⟨b, o, none⟩) c k (atN ns k) w hv hk (by omega))
      have HNK := Lib.hid (HNO.out k hlt)
      have HNX := Lib.hid (fun h1 h2 => nodesOk_next HO.out h1 h2)
      generalize okB (atN ns k) = d1 at *
      generalize inFirst ns k (atN ns k) = d2 at *
      generalize atN ns k = n at *
      obtain ⟨nx, ny⟩ := n
      unfold Nd.val at HB HCN
      simp only at c0 c1 HB HCN
      have hz1 : (k : Int) < (ns.length : Int) := by omega
      have hz2 : (0 : Int) ≤ k := by omega
      have hz3 : (k : Int) ≤ (c : Int) := by omega
      have H2 := Lib.hid (H1.out.drop.new2 wr.heap.size rfl [.int .i64 nx, .int .i64 ny] 75)
      cases d1
      · go_wp2_with fail
        refine regionD (S := fun W => Held _ W [(wr.heap.size, 0, .int .i64 (nx)), (wr.heap.size, 1, .int .i64 (ny))]) (by kernel_rfl) H2.out.drew ?_
        iterate 10 (refine takeT (v := ?_) rfl (by kernel_rfl) (by kernel_rfl) (by kernel_rfl) ?_ ?_; rotate_left; (first | (refine Or.inr ⟨by rfl, ?_⟩; with_reducible rfl) | (refine Or.inl ⟨by rfl, fun W hS => detRes_value (w' := W) ?_ hS⟩; obtain ⟨x0, x1, _⟩ := hS.1; go_simp; first | done | with_reducible rfl) | (refine Or.inl ⟨by rfl, fun W hS => ?_⟩; refine detRes_call (w' := W) (f := ?_) (args := ?_) ?_ ?_; rotate_left 2; (go_simp; (refine ⟨?_, ?_⟩ <;> with_reducible rfl)); (first | (with_reducible refine (HB.out _).mono ?_) | (with_reducible refine (HCN.out _ (HN.out.step hS.below)).mono ?_) | fail); (first | (rintro e wn ⟨rfl, hb⟩; refine ⟨?_, hS.step hb⟩; with_reducible rfl) | (rintro e wn ⟨rfl, rfl⟩; refine ⟨?_, hS⟩; with_reducible rfl) | fail)) | fail); (simp only [Act.put, List.setIfInBounds_toArray, List.set_cons_zero, List.set_cons_succ]))
        refine doneD (by kernel_rfl) fun wH3 HS => ?_
        have H3 := Lib.hid HS; clear HS
        try clear x0 x1
        obtain ⟨x0, x1, _⟩ := H3.out.1
        go_wp2_with fail
        go_ret
        exact ⟨ret_bool (HNK.out (.inl trivial)).symm, H3.out.below⟩
      · cases d2
        · go_wp2_with fail
          refine regionD (S := fun W => Held _ W [(wr.heap.size, 0, .int .i64 (nx)), (wr.heap.size, 1, .int .i64 (ny))]) (by kernel_rfl) H2.out.drew ?_
          iterate 10 (refine takeT (v := ?_) rfl (by kernel_rfl) (by kernel_rfl) (by kernel_rfl) ?_ ?_; rotate_left; (first | (refine Or.inr ⟨by rfl, ?_⟩; with_reducible rfl) | (refine Or.inl ⟨by rfl, fun W hS => detRes_value (w' := W) ?_ hS⟩; obtain ⟨x0, x1, _⟩ := hS.1; go_simp; first | done | with_reducible rfl) | (refine Or.inl ⟨by rfl, fun W hS => ?_⟩; refine detRes_call (w' := W) (f := ?_) (args := ?_) ?_ ?_; rotate_left 2; (go_simp; (refine ⟨?_, ?_⟩ <;> with_reducible rfl)); (first | (with_reducible refine (HB.out _).mono ?_) | (with_reducible refine (HCN.out _ (HN.out.step hS.below)).mono ?_) | fail); (first | (rintro e wn ⟨rfl, hb⟩; refine ⟨?_, hS.step hb⟩; with_reducible rfl) | (rintro e wn ⟨rfl, rfl⟩; refine ⟨?_, hS⟩; with_reducible rfl) | fail)) | fail); (simp only [Act.put, List.setIfInBounds_toArray, List.set_cons_zero, List.set_cons_succ]))
          refine doneD (by kernel_rfl) fun wH3 HS => ?_
          have H3 := Lib.hid HS; clear HS
          try clear x0 x1
          obtain ⟨x0, x1, _⟩ := H3.out.1
          go_wp2_with fail
          exact ⟨⟨k + 1, by omega, by go_num, HNX.out trivial trivial, H3.out.drop⟩, by simp [intOf]; omega⟩
        · go_wp2_with fail
          refine regionD (S := fun W => Held _ W [(wr.heap.size, 0, .int .i64 (nx)), (wr.heap.size, 1, .int .i64 (ny))]) (by kernel_rfl) H2.out.drew ?_
          iterate 10 (refine takeT (v := ?_) rfl (by kernel_rfl) (by kernel_rfl) (by kernel_rfl) ?_ ?_; rotate_left; (first | (refine Or.inr ⟨by rfl, ?_⟩; with_reducible rfl) | (refine Or.inl ⟨by rfl, fun W hS => detRes_value (w' := W) ?_ hS⟩; obtain ⟨x0, x1, _⟩ := hS.1; go_simp; first | done | with_reducible rfl) | (refine Or.inl ⟨by rfl, fun W hS => ?_⟩; refine detRes_call (w' := W) (f := ?_) (args := ?_) ?_ ?_; rotate_left 2; (go_simp; (refine ⟨?_, ?_⟩ <;> with_reducible rfl)); (first | (with_reducible refine (HB.out _).mono ?_) | (with_reducible refine (HCN.out _ (HN.out.step hS.below)).mono ?_) | fail); (first | (rintro e wn ⟨rfl, hb⟩; refine ⟨?_, hS.step hb⟩; with_reducible rfl) | (rintro e wn ⟨rfl, rfl⟩; refine ⟨?_, hS⟩; with_reducible rfl) | fail)) | fail); (simp only [Act.put, List.setIfInBounds_toArray, List.set_cons_zero, List.set_cons_succ]))
          refine doneD (by kernel_rfl) fun wH3 HS => ?_
          have H3 := Lib.hid HS; clear HS
          try clear x0 x1
          obtain ⟨x0, x1, _⟩ := H3.out.1
          go_wp2_with fail
          go_ret
          exact ⟨ret_bool (HNK.out (.inr trivial)).symm, H3.out.below⟩
    · obtain rfl : k = ns.length := by omega
      go_wp2_with fail
      go_ret
      exact ⟨ret_bool (HYES.out HO.out).symm, H1.out.below⟩
end Go.Proofs.YtmcbbjobjogkmaaGreat
