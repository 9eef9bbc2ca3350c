/-
  What the laws' helpers eqStringS, markStringS, heldStringS, markText return.
-/
import Derived.Test.YtejjeihikmipdaaBase
import Derived.Test.YtejjeihikmipdaaStrsP
import Derived.LoopTactic
import Derived.Outline
import Derived.Deep.QuietTactic
import Derived.BigQuiet
import Derived.Deep.Draws
import Derived.Deep.RegionHeld3
import Derived.Maps.AppendAt
namespace Go.Proofs.Ytejjeihikmipdaa
open Go.RowKit
set_option linter.unusedVariables false
set_option linter.unusedSimpArgs false

theorem run_convert_one' {P : Program} (src dst e : TypeId) (hs : P.underlying src = some (.slice e)) (he : P.underlying e = some (.int .u8)) (hd : P.underlying dst = some .string) (c : UInt8) (w : World) :
    (convert src dst (.slice (some ⟨w.heap.size, 0, none⟩) 1 1)).run P (w.alloc (.cells #[.int .u8 (c.toNat : Int)] e)) = .ok (.string ⟨#[c]⟩) (w.alloc (.cells #[.int .u8 (c.toNat : Int)] e)) := by
  have h := run_convert_bytes_back (P := P) (w.alloc (.cells #[.int .u8 (c.toNat : Int)] e)) src dst e ⟨w.heap.size, 0, none⟩ 1 [c] hs he hd (fun j hj => by
    have : j = 0 := by simp at hj; omega
    subst this
    exact cell_one_new _ _ _ 0 _ rfl)
  exact h
theorem ret_valS {k : IntKind} {a b : Int} (h : a = b) : Value.int k a = .int k b := by rw [h]
theorem cons_str' (c : UInt8) (l : List UInt8) : (⟨#[c]⟩ : ByteArray) ++ ⟨l.toArray⟩ = ⟨(c :: l).toArray⟩ := by
  apply ByteArray.ext
  simp [ByteArray.data_append]

def MarkPost (k : Nat) (w : World) (e : Ending) (w' : World) : Prop := e = .returned (.string (mkT k)) ∧ Below w.heap.size w w'

theorem markText_any (k0 : Nat) (w : World) (h0 : 0 < k0) (h1 : (k0 : Int) ≤ 9223372036854775807) :
    Calls Try.prog 29 #[.int .i64 k0] w (MarkPost k0 w) := by
  have hcv := run_convert_one' (P := Try.prog) 22 9 5 Try.underlying22 Try.underlying5 Try.underlying9
  have HCV := Lib.hid hcv; clear hcv
  have hlen : (digs k0).length ≤ 21 := by
    rw [← itoa_pos k0 (by omega)]; exact Lib.itoa_length_le _ (by omega) (by omega)
  have HLEN := Lib.hid hlen; clear hlen
  go_enter Try.func29, Try.ntmps29
  go_wp2_with fail
  go_loopw [0, 3] (fun v t wr => ∃ (m : Nat) (l : List UInt8), m ≤ k0 ∧ v = .int .i64 m ∧ t = .string ⟨l.toArray⟩ ∧ digs k0 = digs m ++ l ∧ Below w.heap.size w wr) (fun v _ _ => (intOf v).toNat)
  case atStart => exact ⟨k0, [], Nat.le_refl _, rfl, rfl, by simp, Below.refl _ _⟩
  case round =>
    obtain ⟨m, l, hm, rfl, rfl, hd, hb⟩ := hrel
    have hl : l.length ≤ 21 := by
      have := HLEN.out
      rw [hd, List.length_append] at this
      omega
    have HD := Lib.hid hd; clear hd
    have HB := Lib.hid hb; clear hb
    have hbs := HB.out.size
    by_cases hz : 0 < m
    · have hdg : ((digitB (m % 10)).toNat : Int) = 48 + (m : Int) % 10 := by
        unfold digitB; rw [if_pos (by omega)]; simp; omega
      have hcv1 := HCV.out (digitB (m % 10)) wr
      rw [hdg] at hcv1
      have HDG := Lib.hid hdg; clear hdg
      go_wp2_with fail
      refine ⟨⟨m / 10, digitB (m % 10) :: l, by omega, by go_num, ?_, ?_, HB.out.alloc hbs _⟩, by simp [intOf]; omega⟩
      · rw [cons_str']
      · rw [HD.out, digs_step m (by omega)]
        simp
    · have h00 : m = 0 := by omega
      subst h00
      go_wp2_with fail
      go_ret
      refine ⟨?_, HB.out⟩
      have e1 : digs k0 = l := by rw [HD.out]; rfl
      unfold mkT
      rw [e1, ← cons_str']
      rfl

theorem eqStringS_yes {b1 b2 : Nat} {w : World} {v1 v2 : Value} {fs : List ByteArray} (h1 : Strs 9 b1 w v1 fs) (h2 : Strs 9 b2 w v2 fs) :
    Calls Try.prog 17 #[v1, v2] w fun e w' => e = .returned (.bool true) ∧ ∃ n, w' = w.drewN n := by
  have hmax := h1.len
  unfold maxLen at hmax
  obtain ⟨a, ca, rfl, ha⟩ := h1.form'
  obtain ⟨b, cb, rfl, hb⟩ := h2.form'
  have HA := Lib.hid ha; clear ha
  have HB := Lib.hid hb; clear hb
  clear h1 h2
  go_enter Try.func17, Try.ntmps17
  go_wp2_with fail
  go_loopw [5] (fun i wr => ∃ (k n : Nat), k ≤ fs.length ∧ i = .int .i64 k ∧ wr = w.drewN n) (fun i _ => fs.length - (intOf i).toNat)
  case atStart => exact ⟨0, 0, Nat.zero_le _, rfl, rfl⟩
  case round =>
    obtain ⟨k, n, hk, rfl, rfl⟩ := hrel
    by_cases hlt : k < fs.length
    · obtain ⟨g, rfl, _, _, hc, _⟩ := HA.out k hlt
      obtain ⟨g', rfl, _, _, hc', _⟩ := HB.out k hlt
      go_wp2_with fail
      go_quiet (fail)
      go_wp2_with fail
      refine ⟨⟨k + 1, _, by omega, by go_num, rfl⟩, by simp [intOf]; omega⟩
    · go_wp2_with fail
      go_ret
      exact ⟨rfl, n, rfl⟩

def HeldPost (k : Nat) (w : World) (e : Ending) (w' : World) : Prop := e = .returned (.int .i64 k) ∧ Below w.heap.size w w'

theorem markStringS_any {base : Nat} {w : World} {v : Value} {fs : List ByteArray} (k0 : Nat) (h : Strs 9 base w v fs) (h0 : 0 < k0) (h1 : ((k0 + fs.length : Nat) : Int) ≤ 9223372036854775807) :
    Calls Try.prog 18 #[v, .int .i64 k0] w fun e w' => e = .returned (.int .i64 ((k0 + fs.length : Nat) : Int)) ∧ Strs 9 base w' v (marks k0 fs.length) ∧ w.grownBy w' v.ownBlock := by
  rcases h.form with ⟨rfl, rfl⟩ | ⟨g, cap, rfl, hbase, hgl, hcell, hfr⟩
  · clear h
    go_enter Try.func18, Try.ntmps18
    go_wp2_with fail
    go_loop [1, 5] (fun v i => i = .int .i64 0 ∧ v = .int .i64 k0) (fun _ _ => 0)
    case atStart => exact ⟨rfl, rfl⟩
    case round =>
      obtain ⟨rfl, rfl⟩ := hrel
      go_wp2_with fail
      go_ret
      exact ⟨by simp, Strs.nil _ _ _, ⟨rfl, rfl, rfl, Nat.le_refl _, fun _ _ _ => rfl⟩⟩
  · have H := Lib.hid h; clear h hcell hfr
    go_enter Try.func18, Try.ntmps18
    go_wp2_with fail
    go_loopw [1, 5] (fun v i wr => ∃ (k : Nat), k ≤ fs.length ∧ i = .int .i64 k ∧ v = .int .i64 ((k0 : Int) + k) ∧ wr.ownsRow base 9 1 (.slice (some ⟨g, 0, none⟩) fs.length cap) fs.length ((marks k0 k ++ fs.drop k).map Value.string) ∧ w.grownBy wr (some g)) (fun _ i _ => fs.length - (intOf i).toNat)
    case atStart => exact ⟨0, Nat.zero_le _, rfl, by go_num, by have := H.out; unfold Strs at this; simpa [marks] using this, ⟨rfl, rfl, rfl, Nat.le_refl _, fun _ _ _ => rfl⟩⟩
    case round =>
      obtain ⟨k, hk, rfl, rfl, hown, hgr⟩ := hrel
      have HOWN := Lib.hid hown; clear hown
      have HGR := Lib.hid hgr; clear hgr
      have hsz := HGR.out.size
      by_cases hlt : k < fs.length
      · go_wp2_with fail
        have ek : (k0 : Int) + (k : Int) = ((k0 + k : Nat) : Int) := by omega
        rw [ek]
        refine (markText_any (k0 + k) _ (by omega) (by omega)).mono ?_
        rintro e w1 ⟨rfl, hb1⟩
        clear ek
        have hown1 : w1.ownsRow base 9 1 (.slice (some ⟨g, 0, none⟩) fs.length cap) fs.length ((marks k0 k ++ fs.drop k).map Value.string) :=
          HOWN.out.kept (row := none) ⟨hb1.os, hb1.tape, hb1.output, hb1.size, fun i hi _ => hb1.block i hi⟩ (.inr (by simp [Value.ownBlock]))
        have hst := hown1.stored k (.string (mkT (k0 + k)))
        have hc : w1.cell? ⟨g, k, none⟩ = some (.string fs[k]) := by
          rw [hown1.cellAt k (by omega), List.getElem?_map, List.getElem?_append_right (by rw [marks_length]; exact Nat.le_refl _), marks_length, Nat.sub_self]
          simp [List.getElem?_drop, hlt]
        have hf : w1.frozen? ⟨g, k, none⟩ = false := hown1.frozenAt k
        have hgr1 : w.grownBy (w1.setCell ⟨g, k, none⟩ (.string (mkT (k0 + k)))) (some g) := by
          have a := HGR.out
          refine ⟨hb1.os.trans a.os, hb1.tape.trans a.tape, hb1.output.trans a.output, ?_, fun i hi hne => ?_⟩
          · rw [heap_setCell_size]; exact Nat.le_trans a.size hb1.size
          · rw [Below.heap_setCell _ _ _ _ (fun e => hne (by rw [e])), hb1.block i (by omega), a.block i hi hne]
        have HST := Lib.hid hst.1; clear hst hown1
        have HGR1 := Lib.hid hgr1; clear hgr1 hb1
        go_wp2_with fail
        refine ⟨⟨k + 1, by omega, by go_num, ret_valS (by omega), ?_, HGR1.out⟩, by simp [intOf]; omega⟩
        rw [← marks_set k0 k fs hlt, List.map_set]
        exact HST.out
      · have ek : k = fs.length := by omega
        have EK := Lib.hid ek; clear ek
        go_wp2_with fail
        go_ret
        refine ⟨ret_int (by rw [EK.out]; omega), ?_, HGR.out⟩
        have e1 : fs.drop k = [] := List.drop_eq_nil_of_le (by rw [EK.out]; exact Nat.le_refl _)
        have := HOWN.out
        rw [e1, List.append_nil, EK.out] at this
        unfold Strs
        rw [marks_length]
        exact this

theorem heldStringS_any {base : Nat} {w : World} {v : Value} (k0 n : Nat) (h : Strs 9 base w v (marks k0 n)) (h0 : 0 < k0) (h1 : ((k0 + n : Nat) : Int) ≤ 9223372036854775807) :
    Calls Try.prog 19 #[v, .int .i64 k0] w (HeldPost (k0 + n) w) := by
  obtain ⟨a, cap, rfl, ha⟩ := h.form'
  rw [marks_length]
  have HA := Lib.hid ha; clear ha
  clear h
  go_enter Try.func19, Try.ntmps19
  go_wp2_with fail
  go_loopw [1, 5] (fun v i wr => ∃ (k : Nat), k ≤ n ∧ i = .int .i64 k ∧ v = .int .i64 ((k0 : Int) + k) ∧ Below w.heap.size w wr) (fun _ i _ => n - (intOf i).toNat)
  case atStart => exact ⟨0, Nat.zero_le _, rfl, by go_num, Below.refl _ _⟩
  case round =>
    obtain ⟨k, hk, rfl, rfl, hb⟩ := hrel
    have hsz := hb.size
    by_cases hlt : k < n
    · obtain ⟨g, rfl, _, hgl, hc0, _⟩ := HA.out k (by rw [marks_length]; exact hlt)
      rw [marks_get k0 n k hlt] at hc0
      have hc : wr.cell? ⟨g, k, none⟩ = some (.string (mkT (k0 + k))) := by rw [hb.cell (p := ⟨g, k, none⟩) hgl]; exact hc0
      have HB := Lib.hid hb; clear hb
      clear hc0
      have q0 : (0 : Int) ≤ (k : Int) := by omega
      have q1 : (k : Int) < (n : Int) := by omega
      have ek : (k0 : Int) + (k : Int) = ((k0 + k : Nat) : Int) := by omega
      have EK := Lib.hid ek; clear ek
      have hlt2 : ((k0 + k : Nat) : Int) ≤ 9223372036854775807 := by omega
      have hgl2 : (⟨g, k, none⟩ : Addr).block < wr.heap.size := by show g < _; omega
      have hm := markText_any (k0 + k)
      have HM := Lib.hid hm; clear hm
      go_wp2_with fail
      go_region_held3 (fun w' => w'.cell? ⟨g, k, none⟩ = some (.string (mkT (k0 + k)))) (first | go_keep | assumption) (first | (go_at_call 29; rw [EK.out]; refine (HM.out _ ?_ ?_).mono ?_; omega; omega; rintro e w1 ⟨rfl, hb1⟩; obtain ⟨hb2, hcc⟩ := below_step HB.out hsz hb1 hgl2 hc; have HB2 := Lib.hid hb2; clear hb2 hb1) | fail)
      all_goals
        go_wp2_with fail
        refine ⟨⟨k + 1, by omega, by go_num, ret_valS (by omega), HB2.out⟩, by simp [intOf]; omega⟩
    · have ek : k = n := by omega
      have HB := Lib.hid hb; clear hb
      have EK := Lib.hid ek; clear ek
      go_wp2_with fail
      go_ret
      exact ⟨ret_int (by rw [EK.out]; omega), HB.out⟩
end Go.Proofs.Ytejjeihikmipdaa
