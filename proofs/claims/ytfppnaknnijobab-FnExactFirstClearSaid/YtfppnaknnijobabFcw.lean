/-
  For FirstClear's law: a flawed sheet's copy beside a new variable that is stored.
-/
import Derived.Test.YtfppnaknnijobabFlO
import Derived.Test.YtfppnaknnijobabCopyP
import Derived.Test.YtfppnaknnijobabFcm
namespace Go.Proofs.Ytfppnaknnijobab
open Go.RowKit
set_option linter.unusedVariables false
set_option linter.unusedSimpArgs false

/-- A flawed sheet, the block of its spots such that P. -/
def FlQ (P : Nat → Prop) (s : Nd) (xs : List Nd) (v : Value) (W : World) : Prop := ∃ (A : Option Addr) (c : Nat), v = .agg #[.int .i64 s.x, .int .i64 s.y, .slice A xs.length c] ∧ Prs W (.slice A xs.length c) xs ∧ ∀ g o, A = some ⟨g, o, none⟩ → 0 < xs.length → P g
theorem FlQ.at_ {P : Nat → Prop} {s : Nd} {xs : List Nd} {v : Value} {W : World} (h : FlQ P s xs v W) : FlAt W v s xs := by
  obtain ⟨A, c, e, h1, _⟩ := h
  exact ⟨A, c, e, h1⟩
theorem stable_flq (P : Nat → Prop) (s : Nd) (xs : List Nd) (v : Value) : Stable fun W => FlQ P s xs v W := fun _ _ ⟨A, c, e, h1, h2⟩ hb => ⟨A, c, e, h1.step hb, h2⟩
theorem FlQ.apart {P : Nat → Prop} {s : Nd} {xs : List Nd} {W : World} {A : Option Addr} {c : Nat} (h : FlQ P s xs (.agg #[.int .i64 s.x, .int .i64 s.y, .slice A xs.length c]) W) : ∀ g o, A = some ⟨g, o, none⟩ → 0 < xs.length → P g := by
  obtain ⟨A', c', e, _, h2⟩ := h
  injection e with e
  injection e with e
  injection e with _ e
  injection e with _ e
  injection e with e _
  injection e with e1 _ _
  subst e1
  exact h2
theorem FlQ.low {P : Nat → Prop} {s : Nd} {xs : List Nd} {W : World} {A : Option Addr} {c : Nat} (h : FlQ P s xs (.agg #[.int .i64 s.x, .int .i64 s.y, .slice A xs.length c]) W) : ∀ g o, A = some ⟨g, o, none⟩ → 0 < xs.length → g < W.heap.size := by
  intro g o e h0
  obtain ⟨A', c', e2, h2, _⟩ := h
  obtain ⟨A9, c9, e9, _, _, hx⟩ := h2
  obtain ⟨b, o9, hA, hb, _⟩ := hx h0
  injection e2 with e2
  injection e2 with e2
  injection e2 with _ e2
  injection e2 with _ e2
  injection e2 with e2 _
  injection e2 with e1 _ _
  injection e9 with e9 _ _
  rw [e1, e9, hA] at e
  injection e with e
  injection e with e
  omega
theorem FlQ.setRow {P : Nat → Prop} {s : Nd} {xs : List Nd} {W : World} {A : Option Addr} {c b : Nat} (h : FlQ P s xs (.agg #[.int .i64 s.x, .int .i64 s.y, .slice A xs.length c]) W) (hne : ∀ g o, A = some ⟨g, o, none⟩ → 0 < xs.length → g ≠ b) (cells : Array Value) : FlQ P s xs (.agg #[.int .i64 s.x, .int .i64 s.y, .slice A xs.length c]) (W.setRow b cells) := by
  have ha := h.apart
  obtain ⟨A', c', e2, h2, _⟩ := h
  injection e2 with e2
  injection e2 with e2
  injection e2 with _ e2
  injection e2 with _ e2
  injection e2 with e2 _
  injection e2 with e1 _ e3
  subst e1; subst e3
  refine ⟨A, c, rfl, ?_, ha⟩
  obtain ⟨A9, c9, e9, h4, h5, hx⟩ := h2
  injection e9 with e9 _ e8
  subst e9; subst e8
  refine ⟨A, c, rfl, h4, h5, fun h0 => ?_⟩
  obtain ⟨b9, o9, hA, hb, hc⟩ := hx h0
  have hn := hne b9 o9 hA h0
  exact ⟨b9, o9, hA, by simpa [World.setRow] using hb, hc.keep fun k => World.cell?_of_block (setRow_other W b b9 cells hn)⟩
/-- A new variable of two ints, apart from the block of A. -/
def NwA (n Lo : Nat) (A : Option Addr) (u : Value) (W : World) : Prop := ∃ b, u = .pointer (some ⟨b, 0, none⟩) ∧ Lo ≤ b ∧ BlkN b 82 2 W ∧ ∀ g o, A = some ⟨g, o, none⟩ → 0 < n → g ≠ b
theorem stable_nwA (n Lo : Nat) (A : Option Addr) (u : Value) : Stable fun W => NwA n Lo A u W := fun _ _ ⟨b, h1, h2, h3, h4⟩ hb => ⟨b, h1, h2, stable_blkN _ _ _ _ _ h3 hb, h4⟩
theorem NwA.parts {n Lo : Nat} {A : Option Addr} {b : Nat} {W : World} (h : NwA n Lo A (.pointer (some ⟨b, 0, none⟩)) W) : Lo ≤ b ∧ BlkN b 82 2 W ∧ ∀ g o, A = some ⟨g, o, none⟩ → 0 < n → g ≠ b := by
  obtain ⟨b', e, h1, h2, h3⟩ := h
  injection e with e
  injection e with e
  injection e with e
  subst e
  exact ⟨h1, h2, h3⟩
theorem NwA.setRow {n Lo : Nat} {A : Option Addr} {b : Nat} {W : World} (h : NwA n Lo A (.pointer (some ⟨b, 0, none⟩)) W) {cells : Array Value} (hs : cells.size = 2) : NwA n Lo A (.pointer (some ⟨b, 0, none⟩)) (W.setRow b cells) :=
  ⟨b, rfl, h.parts.1, h.parts.2.1.setRow hs, h.parts.2.2⟩
theorem NwA.lt {n Lo : Nat} {A : Option Addr} {b : Nat} {W : World} (h : NwA n Lo A (.pointer (some ⟨b, 0, none⟩)) W) : b < W.heap.size := by
  obtain ⟨cs, hc, _⟩ := h.parts.2.1
  exact lt_of_block hc
theorem freeR_nwA {n Lo : Nat} {A : Option Addr} {w : World} {r : Result Next} (h : r = .ok (.value (.pointer (some ⟨w.heap.size, 0, none⟩))) (w.alloc (.cells #[.int .i64 0, .int .i64 0] 82))) (hLo : Lo ≤ w.heap.size) (ha : ∀ g o, A = some ⟨g, o, none⟩ → 0 < n → g < w.heap.size) : FreeR Try.prog (NwA n Lo A) w r := by
  subst h
  exact ⟨⟨_, rfl, hLo, ⟨_, heap_alloc_new w _, rfl⟩, fun g o e h0 => by have := ha g o e h0; omega⟩, (Below.refl _ _).alloc (Nat.le_refl _) _⟩
theorem toFlawed_q0 (s : Nd) (xs : List Nd) (v : Value) (w : World) (hv : FlAt w v s xs) (h1 : xs.length ≤ 1048576) :
    Calls Try.prog 46 #[v] w (fun e w' => ∃ v', e = .returned v' ∧ FlQ (fun _ => True) s xs v' w' ∧ Below w.heap.size w w') :=
  (toFlawed_at s xs v w hv h1).mono fun e w' ⟨v', he, ⟨A, c, h2, h3⟩, hb⟩ => ⟨v', he, ⟨A, c, h2, h3, fun _ _ _ _ => trivial⟩, hb⟩
theorem toFlawed_q (s : Nd) (xs : List Nd) (v : Value) (w : World) (b : Nat) (hb : b < w.heap.size) (hv : FlAt w v s xs) (h1 : xs.length ≤ 1048576) :
    Calls Try.prog 46 #[v] w (fun e w' => ∃ v', e = .returned v' ∧ FlQ (fun g => g ≠ b) s xs v' w' ∧ Below w.heap.size w w') :=
  (toFlawed_own s xs v w hv h1).mono fun e w' ⟨v', he, ⟨A, c, h2, h3⟩, hbl⟩ => ⟨v', he, ⟨A, c, h2, h3.prs, fun g o e h0 => by
    obtain ⟨A9, c9, n9, e9, _, _, hx⟩ := h3
    obtain ⟨g9, e8, hB, _⟩ := hx h0
    injection e9 with e9 _ _
    rw [e9, e8] at e
    injection e with e
    injection e with e
    omega⟩, hbl⟩
end Go.Proofs.Ytfppnaknnijobab
