/-
  Slices of ints that come in, read as a list of ints; the laws' copies of them.
-/
import Derived.Test.YtfppnaknnijobabOpen
import Derived.Test.YtfppnaknnijobabLawI
import Derived.Test.YtfppnaknnijobabDetW
namespace Go.Proofs.Ytfppnaknnijobab
open Go.RowKit Go.ChangeShapes Go.WideShapes Go.Deep
set_option linter.unusedVariables false
set_option linter.unusedSimpArgs false

def atZ (xs : List Int) (k : Nat) : Int := xs.getD k 0
theorem atZ_get {xs : List Int} {k : Nat} (h : k < xs.length) : xs[k] = atZ xs k := by unfold atZ; simp [List.getD, h]
/-- The slice value v reads as the ints xs. -/
def Seq (w : World) (v : Value) (xs : List Int) : Prop :=
  ∃ (A : Option Addr) (c : Nat), v = .slice A xs.length c ∧ xs.length ≤ c ∧ c ≤ maxLen ∧ (0 < xs.length → ∃ b o, A = some ⟨b, o, none⟩ ∧ b < w.heap.size ∧ ∀ k, k < xs.length → w.cell? ⟨b, o + k, none⟩ = some (.int .i64 (atZ xs k)))
theorem Seq.step {w w' : World} {v : Value} {xs : List Int} (h : Seq w v xs) (hb : Below w.heap.size w w') : Seq w' v xs := by
  obtain ⟨A, c, rfl, hl, hc, hx⟩ := h
  refine ⟨A, c, rfl, hl, hc, fun h0 => ?_⟩
  obtain ⟨b, o, rfl, hlt, hcs⟩ := hx h0
  exact ⟨b, o, rfl, Nat.lt_of_lt_of_le hlt hb.size, fun k hk => (hb.cell (p := ⟨b, o + k, none⟩) hlt).trans (hcs k hk)⟩
theorem Seq.form {w : World} {v : Value} {xs : List Int} (h : Seq w v xs) : ∃ (A : Option Addr) (c : Nat), v = .slice A xs.length c ∧ xs.length ≤ c ∧ c ≤ maxLen ∧
    ∀ k, k < xs.length → ∃ b o, A = some ⟨b, o, none⟩ ∧ b < w.heap.size ∧ w.cell? ⟨b, o + k, none⟩ = some (.int .i64 (atZ xs k)) := by
  obtain ⟨A, c, rfl, hl, hc, hx⟩ := h
  refine ⟨A, c, rfl, hl, hc, fun k hk => ?_⟩
  obtain ⟨b, o, hA, hlt, hcs⟩ := hx (by omega)
  exact ⟨b, o, hA, hlt, hcs k hk⟩
theorem Ints.seq {w : World} {B : Nat} {v : Value} {xs : List Int} (h : Ints w B v xs) : Seq w v xs := by
  unfold Ints at h
  have H := h
  rcases h.2 with ⟨rfl, h0⟩ | ⟨g, cap, cur, rfl, hb, hg, hnc, hcm, hcs, ht⟩
  · exact ⟨none, 0, by rw [h0], by omega, by unfold maxLen; omega, fun h => by omega⟩
  · refine ⟨_, cap, rfl, hnc, hcm, fun h0 => ⟨g, 0, rfl, lt_of_block hg, fun k hk => ?_⟩⟩
    rw [Nat.zero_add, H.cellAt k (by omega)]
    simp [hk, ← atZ_get hk]

theorem zlist_of_all {n : Nat} {R : Nat → Int → Prop} (h : ∀ i, i < n → ∃ p, R i p) : ∃ xs : List Int, xs.length = n ∧ ∀ i, i < n → R i (atZ xs i) := by
  refine ⟨(List.range n).map fun i => if hi : i < n then Classical.choose (h i hi) else 0, by simp, fun i hi => ?_⟩
  have e : atZ ((List.range n).map fun i => if hi : i < n then Classical.choose (h i hi) else 0) i = Classical.choose (h i hi) := by
    unfold atZ
    simp [List.getD, List.getElem?_map, List.getElem?_range, hi]
  rw [e]
  exact Classical.choose_spec (h i hi)

section
variable {H : Type} {enc : TypeId × Value → H} {P : Program} {w : World} {base : Nat} {spare : Nat → Bool} {held : Bool}
theorem seq_open {t e : TypeId} {fuel : Nat} {cs : List Value} {x : DataW H × List MemPlace} (ht : P.underlying t = some (.slice e)) (he : P.underlying e = some (.int .i64)) (hC : P.cellsOf e = 1)
    (h : DataW.trod enc P w base spare held fuel t cs = some x) : ∃ v xs, cs = [v] ∧ Seq w v xs := by
  rcases open_slice ht h with ⟨h0, _⟩ | ⟨a, len, cap, m, n, D, Pl, hcs, hb, hl, hm, hmm, hx, hi⟩
  · exact ⟨_, [], h0, none, 0, rfl, Nat.le_refl _, Nat.zero_le _, fun h => absurd h (by simp)⟩
  · have hle : len ≤ m := by rw [hmm]; split <;> omega
    have hall : ∀ i, i < len → ∃ p : Int, w.cell? (a.add i) = some (.int .i64 p) := by
      intro i hil
      obtain ⟨cs', hc, ht'⟩ := hi i (by omega)
      rw [hC] at hc
      obtain ⟨p, e0, _, _⟩ := DataW.trod_int he ht'
      obtain ⟨_, hcl, hat⟩ := World.cells?_some hc
      have c0 := hat 0 (by omega)
      rw [Go.Deep.add_add] at c0
      simp only [Nat.add_zero, Nat.mul_one] at c0
      refine ⟨p, ?_⟩
      rw [c0, e0]; rfl
    obtain ⟨xs, hxl, hxs⟩ := zlist_of_all hall
    subst hxl
    refine ⟨_, xs, hcs, some a, cap, rfl, hl, hm, fun h0 => ?_⟩
    obtain ⟨b, off, spot⟩ := a
    have hspot : spot = none := by
      have := hxs 0 h0
      simp [Addr.add] at this
      exact World.cell?_spot this
    subst hspot
    have hp := fun i hi => hxs i hi
    simp only [Go.WideShapes.add_plain] at hp
    exact ⟨b, off, rfl, World.block_lt_of_cell? w _ (hp 0 h0), hp⟩
end

theorem seq_form2 {w : World} {v : Value} {xs : List Int} (h : Seq w v xs) : ∃ (A : Option Addr) (c : Nat), v = .slice A xs.length c := by
  obtain ⟨A, c, rfl, _⟩ := h
  exact ⟨A, c, rfl⟩
theorem Seq.len {w : World} {v : Value} {xs : List Int} (h : Seq w v xs) : xs.length ≤ 9223372036854775807 := by
  obtain ⟨A, c, rfl, hl, hc, hx⟩ := h
  unfold maxLen at hc
  omega
theorem stable_seq (v : Value) (xs : List Int) : Stable fun W => Seq W v xs := fun _ _ h hb => h.step hb
theorem filled_set (xs : List Int) (k : Nat) (h : k < xs.length) : (xs.take k ++ List.replicate (xs.length - k) 0).set k (atZ xs k) = xs.take (k + 1) ++ List.replicate (xs.length - (k + 1)) 0 := by
  rw [List.set_append_right _ _ (by simp; omega), List.take_succ_eq_append_getElem h, atZ_get h, List.length_take, Nat.min_eq_left (by omega), Nat.sub_self,
    show xs.length - k = (xs.length - (k + 1)) + 1 by omega, List.replicate_succ, List.set_cons_zero, List.append_assoc]
  rfl

set_option maxRecDepth 100000 in
theorem toIntS_any (xs : List Int) (v : Value) (w : World) (hv : Seq w v xs) (hlen : xs.length ≤ 1048576) :
    Calls Try.prog 23 #[v] w (IntsNew xs w) := by
  obtain ⟨i0, hi0, hz0, hz1, hz2⟩ := info_parts infoInt
  obtain ⟨w2, hmk, hown, hgr⟩ := run_make_full (P := Try.prog) w w.heap.size 32 3 i0 _ 1 Try.underlying32 hi0 hz0 hz1 .i64 .i64 xs.length (by rw [hz2]; omega) (by unfold maxLen; omega) (Nat.le_refl _)
  have HC := Lib.hid hv
  obtain ⟨A, c, rfl⟩ := seq_form2 hv
  clear hv
  have hb0 : Below w.heap.size w w2 := ⟨hgr.os, hgr.tape, hgr.output, hgr.size, fun k hk => hgr.block k hk (by simp)⟩
  have HB0 := Lib.hid hb0; clear hb0 hgr
  have ho : w2.ownsRow w.heap.size 3 1 (.slice (some ⟨w.heap.size, 0, none⟩) xs.length xs.length) xs.length ((xs.take 0 ++ List.replicate (xs.length - 0) 0).map fun x => .int .i64 x) := by
    have e : (madeCells (Value.int .i64 0).cells (xs.length * 1)).toList = (xs.take 0 ++ List.replicate (xs.length - 0) (0 : Int)).map fun x => Value.int .i64 x := by
      rw [show (Value.int .i64 0).cells = #[.int .i64 0] from rfl, toList_madeCells_one]
      simp
    rw [← e]; exact hown
  have HO := Lib.hid ho; clear ho hown
  clear hi0 hz0 hz1 hz2
  go_enter Try.func23, Try.ntmps23
  go_wp2_with fail
  clear hmk
  go_loopw [4] (fun i wr => ∃ k : Nat, k ≤ xs.length ∧ i = .int .i64 k ∧ wr.ownsRow w.heap.size 3 1 (.slice (some ⟨w.heap.size, 0, none⟩) xs.length xs.length) xs.length ((xs.take k ++ List.replicate (xs.length - k) 0).map fun x => .int .i64 x) ∧ Below w.heap.size w wr) (fun i _ => xs.length - (intOf i).toNat)
  case atStart => exact ⟨0, Nat.zero_le _, rfl, HO.out, HB0.out⟩
  case round =>
    obtain ⟨k, hk, rfl, hown, hb⟩ := hrel
    have HOWN := Lib.hid hown; clear hown
    have HB := Lib.hid hb; clear hb
    by_cases hlt : k < xs.length
    · obtain ⟨_, _, he, _, _, hcs⟩ := (HC.out.step HB.out).form
      injection he with he1 he2 he3
      obtain ⟨b, o, hA, hbl, hc⟩ := hcs k hlt
      rw [← he1] at hA
      subst hA
      clear he1 he2 he3 hcs
      have hst := HOWN.out.stored k (.int .i64 (atZ xs k))
      have hf : wr.frozen? ⟨w.heap.size, k, none⟩ = false := HOWN.out.frozenAt k
      have hcc : ∃ q, wr.cell? ⟨w.heap.size, k, none⟩ = some (.int .i64 q) := by
        rw [HOWN.out.cellAt k (by omega), List.getElem?_map, List.getElem?_append_right (by simp; omega)]
        exact ⟨0, by simp [List.getElem?_replicate]; omega⟩
      obtain ⟨q, hq⟩ := hcc
      have HST := Lib.hid hst.1; clear hst
      have HS := Lib.hid (filled_set xs k hlt)
      generalize atZ xs k = z at *
      go_wp2_with fail
      refine ⟨⟨k + 1, by omega, by go_num, ?_, HB.out.setCell (Nat.le_refl _) _⟩, by simp [intOf]; omega⟩
      rw [← HS.out, List.map_set]
      exact HST.out
    · have ek : k = xs.length := by omega
      have EK := Lib.hid ek; clear ek
      go_wp2_with fail
      go_ret
      refine ⟨_, rfl, ?_, HB.out⟩
      have := HOWN.out
      rw [EK.out] at this
      unfold Ints
      simpa using this

set_option maxRecDepth 100000 in
theorem eqIntS_seq {w : World} {v1 v2 : Value} {fs : List Int} (h1 : Seq w v1 fs) (h2 : Seq w v2 fs) :
    Calls Try.prog 26 #[v1, v2] w fun e w' => e = .returned (.bool true) ∧ ∃ n, w' = w.drewN n := by
  have hmax := h1.len
  obtain ⟨a, ca, rfl, _, _, ha⟩ := h1.form
  obtain ⟨b, cb, rfl, _, _, hb⟩ := h2.form
  have HA := Lib.hid ha; clear ha
  have HB := Lib.hid hb; clear hb
  clear h1 h2
  go_enter Try.func26, Try.ntmps26
  go_wp2_with fail
  go_loopw [5] (fun i wr => ∃ (k n : Nat), k ≤ fs.length ∧ i = .int .i64 k ∧ wr = w.drewN n) (fun i _ => fs.length - (intOf i).toNat)
  case atStart => exact ⟨0, 0, Nat.zero_le _, rfl, rfl⟩
  case round =>
    obtain ⟨k, n, hk, rfl, rfl⟩ := hrel
    by_cases hlt : k < fs.length
    · obtain ⟨g, o, rfl, _, hc⟩ := HA.out k hlt
      obtain ⟨g', o', rfl, _, hc'⟩ := HB.out k hlt
      go_wp2_with fail
      go_quiet (fail)
      go_wp2_with fail
      refine ⟨⟨k + 1, _, by omega, by go_num, rfl⟩, by simp [intOf]; omega⟩
    · go_wp2_with fail
      go_ret
      exact ⟨rfl, n, rfl⟩
end Go.Proofs.Ytfppnaknnijobab
