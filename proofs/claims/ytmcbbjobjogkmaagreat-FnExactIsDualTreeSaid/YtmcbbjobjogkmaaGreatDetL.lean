/-
  A drawn region whose last operation is a call that turns what was known.
-/
import Derived.Test.YtmcbbjobjogkmaaGreatDetA
namespace Go.Proofs.YtmcbbjobjogkmaaGreat
open Go.RowKit
set_option linter.unusedVariables false
set_option linter.unusedSimpArgs false

theorem stable_say (p : Prop) : Stable fun _ => p := fun _ _ h _ => h

def CallD (P : Program) (D : Value) (G2 : World → Prop) : Result Next → Prop
  | .ok (.enter f args) w' => Calls P f args w' fun e w'' => e = .returned D ∧ G2 w''
  | _ => False

theorem callD {P : Program} {D : Value} {G2 : World → Prop} {r : Result Next} {w' : World} {f : FuncId} {args : Array Value} (h : r = .ok (.enter f args) w') (hc : Calls P f args w' fun e w'' => e = .returned D ∧ G2 w'') : CallD P D G2 r := by subst h; exact hc

section

variable {P : Program} {Q : Exit → Act → World → Prop} {md : Region.Mode} {C : World → Prop}

/-- Only number i may come up, a call that hands back D: behind it G2 is known in G's place. -/
theorem callC {l rest : List Oper} {i : Nat} {oi : Oper} {fuel : Nat} {listed : Array Bool} {a : Act} {G : World → Prop} (D : Value) (G2 : World → Prop) (hst2 : Stable G2) (hC : ∀ x, G2 x → C x) (hi : l.drop i = oi :: rest)
    (hr : Region.ready md l.toArray listed = [i]) (hw : Region.wanted oi (yielded l.toArray a.tmps) = true) (hy : ∀ w, G w → CallD P D G2 ((execOp a.eval oi).run P w))
    (h : wpAnyC P md l.toArray Q C fuel (listed.setIfInBounds i true) (a.put oi.dst D) G2) : wpAnyC P md l.toArray Q C (fuel + 1) listed a G := by
  refine ⟨fun h0 => (by rw [hr] at h0; cases h0), fun j hj w hG => ?_⟩
  rw [hr] at hj
  obtain rfl : j = i := by simpa using hj
  unfold wpOp
  simp only [get_of_drop hi, hw, if_true]
  refine .inl ?_
  have hd := hy w hG
  unfold Oper.wp
  generalize (execOp a.eval oi).run P w = r at *
  cases r with
  | ok n w' =>
    cases n <;> simp only [CallD] at hd <;> simp only [Oper.upon]
    case enter f args => exact hd.mono fun e w'' he => by obtain ⟨rfl, h1⟩ := he; exact ⟨G2, hst2, hC, h1, h⟩
  | halt x w' => simp [CallD] at hd

end
end Go.Proofs.YtmcbbjobjogkmaaGreat
