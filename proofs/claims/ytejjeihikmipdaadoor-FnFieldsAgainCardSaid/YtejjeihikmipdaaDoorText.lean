/-
  Draws of text: l01Long, l01Text.
-/
import Derived.Test.YtejjeihikmipdaaDoorDraw
import Derived.Test.YtejjeihikmipdaaDoorHexP
import Derived.Test.YtejjeihikmipdaaDoorFig
namespace Go.Proofs.YtejjeihikmipdaaDoor
open Go.RowKit
set_option linter.unusedVariables false
set_option linter.unusedSimpArgs false

theorem byteV_wf (n : Int) (h0 : 0 ≤ n) (h1 : n ≤ 255) : ∃ c : UInt8, byteV c = .int .u8 n := by
  obtain ⟨k, rfl⟩ := Int.eq_ofNat_of_zero_le h0
  refine ⟨UInt8.ofNat k, ?_⟩
  unfold byteV
  have : (UInt8.ofNat k).toNat = k := by simp; omega
  rw [this]

def LongPost (n : Nat) (w : World) (e : Ending) (w' : World) : Prop := ∃ s : ByteArray, s.size = n ∧ e = .returned (.string s) ∧ Below w.heap.size w w'

theorem l01Long_any (n : Nat) (x : UInt8) (w : World) (hn : n ≤ 1000000) :
    Calls Tryd.prog 23 #[.int .i64 n, .int .u8 x.toNat] w (LongPost n w) := by
  obtain ⟨i0, hi, hz0, hz1, hz2⟩ := info_parts infoU8
  go_enter Tryd.func23, Tryd.ntmps23
  go_wp2_with (at_make; refine wpList_make_full _ rfl _ _ 22 rfl w.heap.size 5 i0 (.int .u8 0) 1 Tryd.underlying22 hi hz0 hz1 .i64 .i64 _ _ n rfl rfl rfl rfl (by rw [hz2]; omega) (by unfold maxLen; omega) (Nat.le_refl _) ?_; intro w0 hown0 hgrow0)
  have h0 : w0.ownsRow w.heap.size 5 1 (.slice (some ⟨w.heap.size, 0, none⟩) n n) n ((List.replicate n (0 : UInt8)).map byteV) := by
    have e : (madeCells (Value.int IntKind.u8 0).cells (n * 1)).toList = (List.replicate n (0 : UInt8)).map byteV := by
      rw [Nat.mul_one]
      show (madeCells #[Value.int IntKind.u8 0] n).toList = _
      rw [toList_madeCells_one, List.map_replicate]
      rfl
    rw [← e]
    exact hown0
  have HOWN0 := Lib.hid h0; clear h0 hown0
  have HB0 := Lib.hid ((Below.refl w.heap.size w).grown hgrow0 (Nat.le_refl _) (fun k e => by cases e)); clear hgrow0
  go_loopw [6] (fun i wr => ∃ (k : Nat) (l : List UInt8), k ≤ n ∧ i = .int .i64 k ∧ l.length = n ∧ wr.ownsRow w.heap.size 5 1 (.slice (some ⟨w.heap.size, 0, none⟩) n n) n (l.map byteV) ∧ Below w.heap.size w wr) (fun i _ => n - (intOf i).toNat)
  case atStart => exact ⟨0, List.replicate n 0, Nat.zero_le _, rfl, by simp, HOWN0.out, HB0.out⟩
  case round =>
    obtain ⟨k, l, hk, rfl, hl, hown, hb⟩ := hrel
    have HL := Lib.hid hl
    by_cases hlt : k < n
    · obtain ⟨y, hc⟩ : ∃ y, wr.cell? ⟨w.heap.size, k, none⟩ = some y := ⟨byteV (l[k]'(by omega)), by
        rw [hown.cellAt k (by omega)]
        simp [hl, hlt]⟩
      have hf : wr.frozen? ⟨w.heap.size, k, none⟩ = false := hown.frozenAt k
      have hst := hown.stored k (byteV x)
      rw [← List.map_set] at hst
      have HST := Lib.hid hst.1; clear hst hown
      have HB := Lib.hid (hb.setCell (p := ⟨w.heap.size, k, none⟩) (Nat.le_refl _) (byteV x)); clear hb hl
      go_wp2_with fail
      exact ⟨⟨k + 1, l.set k x, by omega, by go_num, by rw [List.length_set]; exact HL.out, HST.out, HB.out⟩, by simp [intOf]; omega⟩
    · have hcv := run_convert_own (P := Tryd.prog) wr 22 9 5 _ Tryd.underlying22 Tryd.underlying5 Tryd.underlying9 hown
      have HB := Lib.hid hb; clear hb hown hl
      go_wp2_with fail
      go_ret
      exact ⟨⟨l.toArray⟩, by show l.toArray.size = n; simpa using HL.out, rfl, HB.out⟩

/-- A draw returns a text of at most m bytes; the cursor at b goes on; of what lay there nothing else has turned. -/
def DrawnT (T B b m : Nat) (w : World) (e : Ending) (w' : World) : Prop := ∃ s : ByteArray, s.size ≤ m ∧ e = .returned (.string s) ∧ Cur T B w' b ∧ Goes b w w'

theorem l01Text_any {B b : Nat} {w : World} (n : Nat) (hn : n ≤ 5000) (h : Cur 54 B w b) :
    Calls Tryd.prog 25 #[.pointer (some ⟨b, 0, none⟩), .int .i64 n] w (DrawnT 54 B b n w) := by
  obtain ⟨i0, hi, hz0, hz1, hz2⟩ := info_parts infoU8
  have hlt0 := h.lt
  have HC := Lib.hid h; clear h
  go_enter Tryd.func25, Tryd.ntmps25
  go_wp2_with fail
  go_loopw [5, 6] (fun v i wr => ∃ (k : Nat) (l : List UInt8), k ≤ n ∧ i = .int .i64 k ∧ l.length = k ∧ wr.ownsRow w.heap.size 5 1 v k (l.map byteV) ∧ Cur 54 B wr b ∧ Goes b w wr) (fun _ i _ => n - (intOf i).toNat)
  case atStart => exact ⟨0, [], Nat.zero_le _, rfl, rfl, World.ownsRow_made _ _ _ (Nat.le_refl _) (by unfold maxLen; omega) rfl, HC.out.alloc _, (Goes.refl _ _).alloc _⟩
  case round =>
    obtain ⟨k, l, hk, rfl, hl, hown, hc, hg⟩ := hrel
    have HL := Lib.hid hl; clear hl
    have hsz := hg.size
    by_cases hlt : k < n
    · have HOWN := Lib.hid hown; clear hown
      have HCr := Lib.hid hc; clear hc
      have HG := Lib.hid hg; clear hg
      go_wp2_with fail
      refine (l01Byte_any HCr.out).mono ?_
      rintro e w1 ⟨x, ⟨hx0, hx1⟩, rfl, hc1, hs1⟩
      have hvb : u5.ownBlock ≠ some b := fun e => by
        have := (HOWN.out.lt b e).1
        omega
      have hown1 := hs1.row HOWN.out hvb
      have HOWN1 := Lib.hid hown1; clear hown1
      have HC1 := Lib.hid hc1; clear hc1
      have hsz1 := hs1.size
      have hsz2 : w.heap.size ≤ w1.heap.size := by omega
      have HG1 := Lib.hid (HG.out.steps hs1); clear hs1 hsz1
      obtain ⟨c, hcx⟩ := byteV_wf x hx0 hx1
      have HCX := Lib.hid hcx; clear hcx
      have HVB := Lib.hid hvb; clear hvb
      go_wp2_with (at_builtin; refine wpList_append_own _ rfl _ _ 22 rfl w.heap.size 5 i0 (.int .u8 0) 1 1 Tryd.underlying22 hi hz0 hz1 hz2 rfl (by decide) _ _ _ rfl (World.ownsRow.alloc HOWN1.out _) ⟨w1.heap.size, 0, none⟩ 1 1 [.int .u8 x] rfl rfl ?c1 ?c2 ?c3 ?c4 ?c5 ?_)
      case c1 => exact cell_one_new _ _ _
      case c2 => simp [Value.oneCell']
      case c3 => unfold maxLen; omega
      case c4 => omega
      case c5 => simp; omega
      intro v' w2 hown2 hgrow _
      have hr : ∀ i, u5.ownBlock = some i → w.heap.size ≤ i := fun i e => (HOWN1.out.lt i e).1
      have HG2 := Lib.hid ((HG1.out.alloc (Obj.cells #[Value.int IntKind.u8 x] 5)).grown hgrow (fun i e => .inl (hr i e)))
      have HC2 := Lib.hid ((HC1.out.alloc (Obj.cells #[Value.int IntKind.u8 x] 5)).grown hgrow (fun i e => by have h1 := hr i e; have h2 := HC1.out.base; exact ⟨by omega, by omega⟩))
      clear hgrow hr
      have HOWN2 := Lib.hid hown2; clear hown2
      go_wp2_with fail
      refine ⟨⟨k + 1, l ++ [c], by omega, by go_num, by simp [HL.out], ?_, HC2.out, HG2.out⟩, by simp [intOf]; omega⟩
      rw [List.map_append, List.map_cons, List.map_nil, HCX.out]
      exact HOWN2.out
    · have ek : k = n := by omega
      have hcv := run_convert_own (P := Tryd.prog) wr 22 9 5 _ Tryd.underlying22 Tryd.underlying5 Tryd.underlying9 hown
      have HCr := Lib.hid hc; clear hc
      have HG := Lib.hid hg; clear hg hown
      have EK := Lib.hid ek; clear ek
      go_wp2_with fail
      go_ret
      exact ⟨⟨l.toArray⟩, by show l.toArray.size ≤ n; simp [HL.out]; omega, rfl, HCr.out, HG.out⟩
end Go.Proofs.YtejjeihikmipdaaDoor
