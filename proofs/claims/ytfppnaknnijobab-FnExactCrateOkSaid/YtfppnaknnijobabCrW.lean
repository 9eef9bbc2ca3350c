/-
  The weight of a crate, of the model and of the program.
-/
import Derived.Test.YtfppnaknnijobabCrate
import Derived.Test.YtfppnaknnijobabLst
namespace Go.Proofs.Ytfppnaknnijobab
open Go.RowKit
set_option linter.unusedVariables false
set_option linter.unusedSimpArgs false

/-- The weight of the first n of the panes ps. -/
def sumP (ws ps : List Int) : Nat → Int
  | 0 => 0
  | n + 1 => sumP ws ps n + atZ ws (atZ ps n).toNat
theorem sumP_bd {ws ps : List Int} (h : inR ws 0 10000 = true) (hp : LstP ws.length ps) : ∀ n, n ≤ ps.length → 0 ≤ sumP ws ps n ∧ sumP ws ps n ≤ 10000 * n
  | 0, _ => by simp [sumP]
  | n + 1, hn => by
    have h1 := sumP_bd h hp n (by omega)
    have h3 := hp.inr n (by omega)
    have h2 := inR_at h (k := (atZ ps n).toNat) (by omega)
    unfold sumP
    omega
noncomputable def crOk (ws ps : List Int) (l : Int) : Bool := inR ws 0 10000 && inB l 0 100000 && lstB ws.length ps
noncomputable def crW (ws ps : List Int) (l : Int) : Int := if crOk ws ps l = true then sumP ws ps ps.length else -1

set_option maxRecDepth 100000 in
theorem specCrW (ws ps : List Int) (l : Int) (v u : Value) (w : World) (hv : Seq w v ws) (hp : Seq w u ps) (hl : ps.length ≤ 1048576) :
    Calls Try.prog 22 #[v, .agg #[u, .int .i64 l]] w (IntIs (crW ws ps l) w) := by
  have HA := Lib.hid (fun w h => specOk31 ws v w h)
  have HB := Lib.hid (specInB l 0 100000)
  have HC := Lib.hid (fun w h => specLst ws.length ps u w h (by have := hv.len; omega))
  have hwl := hv.len
  have hpl := hp.len
  have HV := Lib.hid hv
  have HP := Lib.hid hp
  have HBD := Lib.hid (fun h1 h2 => sumP_bd (ws := ws) (ps := ps) h1 h2)
  have HST := Lib.hid (fun n => (show sumP ws ps (n + 1) = sumP ws ps n + atZ ws (atZ ps n).toNat from rfl))
  have HZ := Lib.hid (show sumP ws ps 0 = 0 from rfl)
  have HLP := Lib.hid (lstB_iff ws.length ps)
  have HIB := Lib.hid (inB_iff l 0 100000)
  have HR := Lib.hid (show crW ws ps l = if (inR ws 0 10000 && inB l 0 100000 && lstB ws.length ps) = true then sumP ws ps ps.length else -1 from rfl)
  obtain ⟨A, c, rfl⟩ := seq_form2 hv
  obtain ⟨A2, c2, rfl⟩ := seq_form2 hp
  have H0 := Lib.hid ((Held.none_ w).new2 w.heap.size rfl [.slice A2 ps.length c2, .int .i64 l] 38)
  simp only [newFs, List.cons_append, List.nil_append, List.append_nil] at H0
  clear hv hp
  generalize sumP ws ps = S at *
  generalize crW ws ps l = r at *
  generalize inR ws 0 10000 = b1 at *
  generalize inB l 0 100000 = b2 at *
  generalize lstB ws.length ps = b3 at *
  by_cases hb : (b1 && b2 && b3) = true
  · obtain ⟨⟨rfl, rfl⟩, rfl⟩ : (b1 = true ∧ b2 = true) ∧ b3 = true := by simpa using hb
    clear hb
    have HLQ := Lib.hid (HLP.out.1 rfl); clear HLP
    have HBD2 := Lib.hid (HBD.out rfl HLQ.out); clear HBD
    have HR2 := Lib.hid (show r = S ps.length from by rw [HR.out]; rfl)
    clear HR HIB
    go_enter Try.func22, Try.ntmps22
    go_wp2_with fail
    repeat' (first | ((first | (with_reducible refine (HA.out _ (HV.out.step H0.out.below)).mono ?_) | (with_reducible refine (HB.out _).mono ?_) | (with_reducible refine (HC.out _ (HP.out.step H0.out.below)).mono ?_) | fail); rintro e wn ⟨rfl, hb⟩; have H0 := Lib.hid (H0.out.step hb); clear hb; (try clear x0 x1); obtain ⟨x0, x1, _⟩ := H0.out.1; go_wp2_with fail) | fail)
    go_loopw [5, 6] (fun v i wr => ∃ m : Nat, m ≤ ps.length ∧ i = .int .i64 m ∧ v = .int .i64 (S m) ∧ Held w wr [(w.heap.size, 0, .slice A2 ps.length c2), (w.heap.size, 1, .int .i64 l)]) (fun _ i _ => ps.length - (intOf i).toNat)
    case atStart => exact ⟨0, Nat.zero_le _, rfl, by rw [HZ.out], H0.out⟩
    case round =>
      clear H0
      obtain ⟨m, hm, rfl, rfl, hh⟩ := hrel
      have H1 := Lib.hid hh; clear hh
      have hs := HBD2.out m hm
      by_cases hlt : m < ps.length
      · obtain ⟨bb, o, rfl, hbl, hcs⟩ := seq_at (HP.out.step H1.out.below) m hlt
        have c0 := hcs m hlt
        have hin := HLQ.out.inr m hlt
        obtain ⟨q, hq⟩ : ∃ q : Nat, atZ ps m = (q : Int) := ⟨(atZ ps m).toNat, by omega⟩
        have hqlt : q < ws.length := by omega
        obtain ⟨bw, ow, rfl, hbl2, hcs2⟩ := seq_at (HV.out.step H1.out.below) q hqlt
        have d0 := hcs2 q hqlt
        clear hcs hcs2
        have hs2 := HBD2.out (m + 1) hlt
        have HS := Lib.hid (HST.out m)
        rw [hq, Int.toNat_natCast] at HS
        rw [hq] at c0
        clear hin hq
        generalize atZ ws q = z at *
        have e1 : IntKind.i64.wrap (S m + z) = S m + z := IntWalk.i64_in _ (by have := HS.out; omega)
        have z1 : (m : Int) < (ps.length : Int) := by omega
        have z2 : (0 : Int) ≤ m := by omega
        have z3 : (q : Int) < (ws.length : Int) := by omega
        have z4 : (0 : Int) ≤ q := by omega
        clear hs hs2
        generalize S m = sv at *
        obtain ⟨x0, x1, _⟩ := H1.out.1
        go_wp2_with fail
        exact ⟨⟨m + 1, by omega, by go_num, by rw [HS.out], H1.out⟩, by simp [intOf]; omega⟩
      · obtain rfl : m = ps.length := by omega
        obtain ⟨x0, x1, _⟩ := H1.out.1
        go_wp2_with fail
        go_ret
        exact ⟨ret_int (by rw [HR2.out]), H1.out.below⟩
  · have HQ := Lib.hid hb; clear hb HBD HIB HLP
    cases b1 <;> cases b2 <;> cases b3
    all_goals first | (exact absurd (by rfl) HQ.out) | skip
    all_goals
      go_enter Try.func22, Try.ntmps22
      go_wp2_with fail
      repeat' (first | ((first | (with_reducible refine (HA.out _ (HV.out.step H0.out.below)).mono ?_) | (with_reducible refine (HB.out _).mono ?_) | (with_reducible refine (HC.out _ (HP.out.step H0.out.below)).mono ?_) | fail); rintro e wn ⟨rfl, hb⟩; have H0 := Lib.hid (H0.out.step hb); clear hb; (try clear x0 x1); obtain ⟨x0, x1, _⟩ := H0.out.1; go_wp2_with fail) | fail)
      go_ret
      exact ⟨ret_int (by rw [HR.out]; simp), H0.out.below⟩

set_option maxRecDepth 100000 in
theorem implCrW (ws ps : List Int) (l : Int) (v u : Value) (w : World) (hv : Seq w v ws) (hp : Seq w u ps) (hl : ps.length ≤ 1048576) :
    Calls Try.prog 25 #[v, .agg #[u, .int .i64 l]] w (IntIs (crW ws ps l) w) := by
  have HA := Lib.hid (fun w h => implWeights ws v w h)
  have HC := Lib.hid (fun w h => implLst ws.length ps u w h (by have := hv.len; omega))
  have hwl := hv.len
  have hpl := hp.len
  have HV := Lib.hid hv
  have HP := Lib.hid hp
  have HBD := Lib.hid (fun h1 h2 => sumP_bd (ws := ws) (ps := ps) h1 h2)
  have HST := Lib.hid (fun n => (show sumP ws ps (n + 1) = sumP ws ps n + atZ ws (atZ ps n).toNat from rfl))
  have HZ := Lib.hid (show sumP ws ps 0 = 0 from rfl)
  have HLP := Lib.hid (lstB_iff ws.length ps)
  have HIB := Lib.hid (inB_iff l 0 100000)
  have HR := Lib.hid (show crW ws ps l = if (inR ws 0 10000 && inB l 0 100000 && lstB ws.length ps) = true then sumP ws ps ps.length else -1 from rfl)
  obtain ⟨A, c, rfl⟩ := seq_form2 hv
  obtain ⟨A2, c2, rfl⟩ := seq_form2 hp
  have H0 := Lib.hid ((Held.none_ w).new2 w.heap.size rfl [.slice A2 ps.length c2, .int .i64 l] 38)
  simp only [newFs, List.cons_append, List.nil_append, List.append_nil] at H0
  clear hv hp
  generalize sumP ws ps = S at *
  generalize crW ws ps l = r at *
  generalize inR ws 0 10000 = b1 at *
  generalize inB l 0 100000 = b2 at *
  generalize lstB ws.length ps = b3 at *
  by_cases h1 : l < 0
  · have hf : b2 = false := by by_cases h : b2 = true; (· have := HIB.out.1 h; omega); (· simpa using h)
    subst hf
    clear HIB HBD HLP
    obtain ⟨x0, x1, _⟩ := H0.out.1
    go_enter Try.func25, Try.ntmps25
    go_wp2_with fail
    go_ret
    exact ⟨ret_int (by rw [HR.out]; simp), H0.out.below⟩
  by_cases h2 : 100000 < l
  · have hf : b2 = false := by by_cases h : b2 = true; (· have := HIB.out.1 h; omega); (· simpa using h)
    subst hf
    clear HIB HBD HLP
    obtain ⟨x0, x1, _⟩ := H0.out.1
    go_enter Try.func25, Try.ntmps25
    go_wp2_with fail
    go_ret
    exact ⟨ret_int (by rw [HR.out]; simp), H0.out.below⟩
  have l1 : 0 ≤ l := by omega
  have l2 : l ≤ 100000 := by omega
  obtain rfl : b2 = true := HIB.out.2 ⟨l1, l2⟩
  clear HIB
  by_cases hb : (b1 && b3) = true
  · obtain ⟨rfl, rfl⟩ : b1 = true ∧ b3 = true := by simpa using hb
    clear hb
    have HLQ := Lib.hid (HLP.out.1 rfl); clear HLP
    have HBD2 := Lib.hid (HBD.out rfl HLQ.out); clear HBD
    have HR2 := Lib.hid (show r = S ps.length from by rw [HR.out]; rfl)
    clear HR
    obtain ⟨x0, x1, _⟩ := H0.out.1
    go_enter Try.func25, Try.ntmps25
    go_wp2_with fail
    repeat' (first | ((first | (with_reducible refine (HA.out _ (HV.out.step H0.out.below)).mono ?_) | (with_reducible refine (HC.out _ (HP.out.step H0.out.below)).mono ?_) | fail); rintro e wn ⟨rfl, hb⟩; have H0 := Lib.hid (H0.out.step hb); clear hb; (try clear x0 x1); obtain ⟨x0, x1, _⟩ := H0.out.1; go_wp2_with fail) | fail)
    go_loopw [5, 32] (fun v i wr => ∃ m : Nat, m ≤ ps.length ∧ i = .int .i64 m ∧ v = .int .i64 (S m) ∧ Held w wr [(w.heap.size, 0, .slice A2 ps.length c2), (w.heap.size, 1, .int .i64 l)]) (fun _ i _ => ps.length - (intOf i).toNat)
    case atStart => exact ⟨0, Nat.zero_le _, rfl, by rw [HZ.out], H0.out⟩
    case round =>
      clear H0
      obtain ⟨m, hm, rfl, rfl, hh⟩ := hrel
      have H1 := Lib.hid hh; clear hh
      have hs := HBD2.out m hm
      by_cases hlt : m < ps.length
      · obtain ⟨bb, o, rfl, hbl, hcs⟩ := seq_at (HP.out.step H1.out.below) m hlt
        have c0 := hcs m hlt
        have hin := HLQ.out.inr m hlt
        obtain ⟨q, hq⟩ : ∃ q : Nat, atZ ps m = (q : Int) := ⟨(atZ ps m).toNat, by omega⟩
        have hqlt : q < ws.length := by omega
        obtain ⟨bw, ow, rfl, hbl2, hcs2⟩ := seq_at (HV.out.step H1.out.below) q hqlt
        have d0 := hcs2 q hqlt
        clear hcs hcs2
        have hs2 := HBD2.out (m + 1) hlt
        have HS := Lib.hid (HST.out m)
        rw [hq, Int.toNat_natCast] at HS
        rw [hq] at c0
        clear hin hq
        generalize atZ ws q = z at *
        have e1 : IntKind.i64.wrap (S m + z) = S m + z := IntWalk.i64_in _ (by have := HS.out; omega)
        have z1 : (m : Int) < (ps.length : Int) := by omega
        have z2 : (0 : Int) ≤ m := by omega
        have z3 : (q : Int) < (ws.length : Int) := by omega
        have z4 : (0 : Int) ≤ q := by omega
        clear hs hs2
        generalize S m = sv at *
        obtain ⟨x0, x1, _⟩ := H1.out.1
        go_wp2_with fail
        exact ⟨⟨m + 1, by omega, by go_num, by rw [HS.out], H1.out⟩, by simp [intOf]; omega⟩
      · obtain rfl : m = ps.length := by omega
        obtain ⟨x0, x1, _⟩ := H1.out.1
        go_wp2_with fail
        go_ret
        exact ⟨ret_int (by rw [HR2.out]), H1.out.below⟩
  · have HQ := Lib.hid hb; clear hb HBD HLP
    cases b1 <;> cases b3
    all_goals first | (exact absurd (by rfl) HQ.out) | skip
    all_goals
      obtain ⟨x0, x1, _⟩ := H0.out.1
      go_enter Try.func25, Try.ntmps25
      go_wp2_with fail
      repeat' (first | ((first | (with_reducible refine (HA.out _ (HV.out.step H0.out.below)).mono ?_) | (with_reducible refine (HC.out _ (HP.out.step H0.out.below)).mono ?_) | fail); rintro e wn ⟨rfl, hb⟩; have H0 := Lib.hid (H0.out.step hb); clear hb; (try clear x0 x1); obtain ⟨x0, x1, _⟩ := H0.out.1; go_wp2_with fail) | fail)
      go_ret
      exact ⟨ret_int (by rw [HR.out]; simp), H0.out.below⟩
end Go.Proofs.Ytfppnaknnijobab
