/-
  Several texts in one: a claim has at most 60 files.
-/
import Derived.Test.YtmcbbjobjogkmabGreatG12
import Derived.Deep.QuietTactic
import Derived.BigQuiet
import Derived.Test.YtmcbbjobjogkmabGreatG5
import Derived.Test.YtmcbbjobjogkmabGreatG4

namespace Go.Proofs.YtmcbbjobjogkmabGreat
open Go.RowKit
set_option linter.unusedVariables false
set_option linter.unusedSimpArgs false

def hasLd (ns ls : List Nd) (k : Int) : Bool := winB ns ls && idxB ls.length k

def sidB (ns ls : List Nd) (k : Int) : Bool := wholeB ns ls && idxB ls.length k

noncomputable def sdA (ns ls : List Nd) (k : Int) : Int := if sidB ns ls k = true then atZ (atW ns ls) (2 * k.toNat) else -1

noncomputable def sdB (ns ls : List Nd) (k : Int) : Int := if sidB ns ls k = true then atZ (atW ns ls) (2 * k.toNat + 1) else -1

end Go.Proofs.YtmcbbjobjogkmabGreat

namespace Go.Proofs.YtmcbbjobjogkmabGreat
open Go.RowKit
set_option linter.unusedVariables false
set_option linter.unusedSimpArgs false

def looseP (ds : List Int) (k : Nat) : Bool := atZ ds (2 * k) == atZ ds (2 * k + 1)

noncomputable def looseW (ns ls : List Nd) : List Int := fltN (looseP (gA ns ls)) (gL ns ls).length

noncomputable def looseB (ns ls : List Nd) (k : Int) : Bool := sidB ns ls k && looseP (atW ns ls) k.toNat

noncomputable def tightB (ns ls : List Nd) : Bool := wholeB ns ls && decide ((looseW ns ls).length = 0)

theorem looseW_len (ns ls : List Nd) : (looseW ns ls).length ≤ 20 := by
  have := fltN_len (looseP (gA ns ls)) (gL ns ls).length
  have := (g_len ns ls).2
  unfold looseW
  omega

end Go.Proofs.YtmcbbjobjogkmabGreat

namespace Go.Proofs.YtmcbbjobjogkmabGreat
open Go.RowKit
set_option linter.unusedVariables false
set_option linter.unusedSimpArgs false

end Go.Proofs.YtmcbbjobjogkmabGreat

namespace Go.Proofs.YtmcbbjobjogkmabGreat
open Go.RowKit
set_option linter.unusedVariables false
set_option linter.unusedSimpArgs false

/-- One int from lo to hi for each face. -/
noncomputable def listB (ns ls : List Nd) (lo hi : Int) (xs : List Int) : Bool := wholeB ns ls && (decide (xs.length = (wF ns ls).length) && inR xs lo hi)

set_option maxRecDepth 100000 in
theorem implAreWishes (A1 A2 A3 A4 : Option Addr) (n1 c1 n2 c2 n3 c3 n4 c4 : Nat) (xs : List Int) (v : Value) (w : World) (hv : Seq w v xs) :
    Calls Tryz.prog 65 #[.agg #[.slice A1 n1 c1, .slice A2 n2 c2, .slice A3 n3 c3, .slice A4 n4 c4], v] w (BoolIs (decide (xs.length = n3) && inR xs (-1) 5) w) := by
  have H0 := Lib.hid (heldG w (.slice A1 n1 c1) (.slice A2 n2 c2) (.slice A3 n3 c3) (.slice A4 n4 c4) 61)
  have HR := Lib.hid (fun W hb => implInR xs v (-1) 5 W (hv.step hb))
  unfold BoolIs at HR
  obtain ⟨A, c, rfl⟩ := seq_form2 hv
  clear hv
  generalize inR xs (-1) 5 = r at *
  generalize xs.length = n at *
  by_cases he : n = n3
  · subst he
    rw [decide_eq_true rfl, Bool.true_and]
    go_enter Tryz.func65, Tryz.ntmps65
    obtain ⟨x0, x1, x2, x3, _⟩ := H0.out.1
    go_wp2_with fail
    refine (HR.out _ H0.out.below).mono ?_
    rintro e w1 ⟨rfl, hb⟩
    have H1 := Lib.hid (H0.out.step hb); clear hb
    go_wp2_with fail
    go_ret
    exact ⟨rfl, H1.out.below⟩
  · rw [decide_eq_false he, Bool.false_and]
    have hne : ¬ (n : Int) = (n3 : Int) := by omega
    clear he
    go_enter Tryz.func65, Tryz.ntmps65
    obtain ⟨x0, x1, x2, x3, _⟩ := H0.out.1
    go_wp2_with fail
    go_ret
    exact ⟨rfl, H0.out.below⟩

set_option maxRecDepth 100000 in
set_option maxHeartbeats 1000000 in
theorem specWishOk (ns ls : List Nd) (xs : List Int) (vn vl v : Value) (w : World) (hn : Prs w vn ns) (hl : Prs w vl ls) (hv : Seq w v xs) :
    Calls Tryz.prog 42 #[.agg #[vn, vl], v] w (BoolIs (listB ns ls (-1) 5 xs) w) := by
  have HW := Lib.hid (fun w h1 h2 => specWhole ns ls vn vl w h1 h2)
  have HF := Lib.hid (fun w h1 h2 => specFacesL ns ls vn vl w h1 h2)
  unfold BoolIs at HW
  unfold FacesNew at HF
  have HN := Lib.hid hn
  have HL := Lib.hid hl
  have H0 := Lib.hid (held_pair w vn vl 33)
  have hlen := hv.len
  have HV := Lib.hid (hv.step H0.out.below)
  obtain ⟨A, c, rfl⟩ := prs_form2 hn
  obtain ⟨A2, c2, rfl⟩ := prs_form2 hl
  obtain ⟨A3, c3, rfl⟩ := seq_form2 hv
  clear hn hl hv
  have h40 := wF_len (ns := ns) (ls := ls)
  have HR := Lib.hid (show listB ns ls (-1) 5 xs = (wholeB ns ls && (decide (xs.length = (wF ns ls).length) && inR xs (-1) 5)) from rfl)
  have HA := Lib.hid (show inR xs (-1) 5 = xs.all fun x => inB x (-1) 5 from rfl)
  have HIN := Lib.hid (fun x w => specIn x (-1) 5 w)
  generalize inR xs (-1) 5 = r at *
  generalize listB ns ls (-1) 5 xs = res at *
  generalize wholeB ns ls = ok at *
  generalize wF ns ls = rs at *
  go_enter Tryz.func42, Tryz.ntmps42
  go_wp2_with fail
  generalize hW0 : w.alloc (.cells #[.slice A ns.length c, .slice A2 ls.length c2] 33) = W0 at *
  clear hW0
  obtain ⟨A3', c3', he3, _, _, hcs⟩ := HV.out.form
  simp only [Value.slice.injEq] at he3
  obtain ⟨rfl, -, -⟩ := he3
  go_loopw [5] (fun i wr => ∃ m : Nat, m ≤ xs.length ∧ i = .int .i64 m ∧ ((xs.take m).all fun x => inB x (-1) 5) = true ∧ wr = W0) (fun i _ => xs.length - (intOf i).toNat)
  case atStart => exact ⟨0, Nat.zero_le _, rfl, by simp, rfl⟩
  case round =>
    obtain ⟨m, hm, rfl, ha, rfl⟩ := hrel
    have HAM := Lib.hid ha; clear ha
    by_cases hlt : m < xs.length
    · obtain ⟨bb, o, rfl, hbl, hc⟩ := hcs m hlt
      have HT := Lib.hid (show xs.take (m + 1) = xs.take m ++ [atZ xs m] from by rw [List.take_succ_eq_append_getElem hlt, atZ_get hlt])
      have HM := Lib.hid (show atZ xs m ∈ xs from by rw [← atZ_get hlt]; exact List.getElem_mem hlt)
      have hz1 : (m : Int) < (xs.length : Int) := by omega
      have hz2 : (0 : Int) ≤ m := by omega
      have HX := Lib.hid (HIN.out (atZ xs m))
      generalize hz : atZ xs m = z at *
      clear hz
      by_cases hb : inB z (-1) 5 = true
      · have HBT := Lib.hid hb
        rw [hb] at HX
        clear hb
        go_wp2_with fail
        refine (HX.out _).mono ?_
        rintro e w' ⟨rfl, rfl⟩
        go_wp2_with fail
        exact ⟨⟨m + 1, by omega, by go_num, by rw [HT.out, List.all_append, HAM.out]; simp [HBT.out], trivial⟩, by simp [intOf]; omega⟩
      · have HBT := Lib.hid hb
        rw [Bool.not_eq_true] at hb
        rw [hb] at HX
        clear hb
        go_wp2_with fail
        refine (HX.out _).mono ?_
        rintro e w' ⟨rfl, rfl⟩
        go_wp2_with fail
        go_ret
        exact ⟨ret_bool (by rw [HR.out, HA.out, show (xs.all fun x => inB x (-1) 5) = false from List.all_eq_false.2 ⟨z, HM.out, HBT.out⟩]; simp), H0.out.below⟩
    · obtain rfl : m = xs.length := by omega
      have HX := Lib.hid (show r = true from by rw [HA.out, ← HAM.out, List.take_length])
      have HR := Lib.hid (show res = (ok && decide (xs.length = rs.length)) from by rw [HR.out, HX.out, Bool.and_true])
      clear HX HA HAM hcs
      obtain ⟨x0, x1, _⟩ := H0.out.1
      cases ok
      · go_wp2_with fail
        refine (HW.out _ (HN.out.step H0.out.below) (HL.out.step H0.out.below)).mono ?_
        rintro e w1 ⟨rfl, hb⟩
        have H1 := Lib.hid (H0.out.step hb); clear hb
        go_wp2_with fail
        go_ret
        exact ⟨ret_bool (by rw [HR.out]; rfl), H1.out.below⟩
      · go_wp2_with fail
        refine (HW.out _ (HN.out.step H0.out.below) (HL.out.step H0.out.below)).mono ?_
        rintro e w1 ⟨rfl, hb⟩
        have H1 := Lib.hid (H0.out.step hb); clear hb x0 x1
        obtain ⟨x0, x1, _⟩ := H1.out.1
        go_wp2_with fail
        refine (HF.out _ (HN.out.step H1.out.below) (HL.out.step H1.out.below)).mono ?_
        rintro e w2 ⟨vf, rfl, hf, hb⟩
        obtain ⟨a, c4, rfl⟩ := faces_form hf
        have H2 := Lib.hid (H1.out.step hb); clear hb hf x0 x1
        by_cases hq : xs.length = rs.length
        · have hq2 : (xs.length : Int) = (rs.length : Int) := by omega
          have HX := Lib.hid (show res = true from by rw [HR.out]; simp [hq])
          have HX2 := Lib.hid hq2
          clear hq hq2
          go_wp2_with fail
          go_ret
          exact ⟨ret_bool (by have := HX.out; have := HX2.out; simp_all), H2.out.below⟩
        · have hq2 : ¬ (xs.length : Int) = (rs.length : Int) := by omega
          have HX := Lib.hid (show res = false from by rw [HR.out]; simp [hq])
          clear hq
          go_wp2_with fail
          go_ret
          exact ⟨ret_bool (by have := HX.out; simp_all), H2.out.below⟩

end Go.Proofs.YtmcbbjobjogkmabGreat

namespace Go.Proofs.YtmcbbjobjogkmabGreat
open Go.RowKit
set_option linter.unusedVariables false
set_option linter.unusedSimpArgs false

def clashP (ds cs : List Int) (k : Nat) : Bool := (!(atZ ds (2 * k) == atZ ds (2 * k + 1))) && (atZ cs (atZ ds (2 * k)).toNat == atZ cs (atZ ds (2 * k + 1)).toNat)

noncomputable def clashW (ns ls : List Nd) (cs : List Int) : Int := if listB ns ls 0 5 cs = true then firstI (clashP (gA ns ls) cs) (gL ns ls).length else -1

noncomputable def properB (ns ls : List Nd) (cs : List Int) : Bool := listB ns ls 0 5 cs && decide (clashW ns ls cs < 0)

theorem g_face {ns ls : List Nd} {d : Nat} (h : d < (gA ns ls).length) : ∃ q : Nat, atZ (gA ns ls) d = (q : Int) ∧ q < (wF ns ls).length := by
  unfold gA wF at *
  by_cases hh : wholeB ns ls = true
  · rw [if_pos hh] at h ⊢
    rw [if_pos hh]
    rw [atW_len] at h
    exact ⟨_, atW_at h, (atW_face (whole_win hh).1 h).2⟩
  · rw [if_neg hh] at h
    simp at h

theorem listB_parts {ns ls : List Nd} {lo hi : Int} {xs : List Int} (h : listB ns ls lo hi xs = true) : wholeB ns ls = true ∧ xs.length = (wF ns ls).length ∧ inR xs lo hi = true := by
  unfold listB at h
  simpa [Bool.and_eq_true] using h

end Go.Proofs.YtmcbbjobjogkmabGreat

namespace Go.Proofs.YtmcbbjobjogkmabGreat
open Go.RowKit
set_option linter.unusedVariables false
set_option linter.unusedSimpArgs false

/-- A glass and a bool are returned. -/
def GlassL (b : Bool) (ns ls : List Nd) (w : World) (e : Ending) (w' : World) : Prop :=
  ∃ v1 v2 v3 v4, e = .returned (.tuple #[.agg #[v1, v2, v3, v4], .bool b]) ∧ Prs w' v1 (gN ns ls) ∧ Prs w' v2 (gL ns ls) ∧ Faces w' w.heap.size v3 (wF ns ls) ∧ Ints w' w.heap.size v4 (gA ns ls) ∧ Below w.heap.size w w'

theorem dec_len (a b : Nat) : decide (a = b) = ((a : Int) == (b : Int)) := by
  rw [Bool.eq_iff_iff]
  simp
  omega

/-- The faces and the faces of the darts lie in blocks from B on. -/
structure FI (B : Nat) (vf : Value) (rs : List (List Int)) (va : Value) (ds : List Int) (W : World) : Prop where
  f : Faces W B vf rs
  a : Ints W B va ds

theorem FI.step {B : Nat} {vf va : Value} {rs : List (List Int)} {ds : List Int} {W W' : World} (h : FI B vf rs va ds W) (hb : Below W.heap.size W W') : FI B vf rs va ds W' := ⟨h.f.step hb, h.a.step hb⟩

theorem stable_fi (B : Nat) (vf : Value) (rs : List (List Int)) (va : Value) (ds : List Int) : Stable fun W => FI B vf rs va ds W := fun _ _ h hb => h.step hb

theorem FI.setRow {B b : Nat} {vf va : Value} {rs : List (List Int)} {ds : List Int} {W : World} (h : FI B vf rs va ds W) (hb : b < B) (cs : Array Value) : FI B vf rs va ds (W.setRow b cs) := by
  have e : ∀ k, B ≤ k → (W.setRow b cs).heap[k]? = W.heap[k]? := fun k hk => setRow_other W b k cs (by omega)
  obtain ⟨⟨us, hf⟩, ha⟩ := h
  exact ⟨⟨us, hf.row.keep fun k hk => e k (hf.row.own k hk).1, hf.len, fun j hj => (hf.each j hj).keep fun k hk => e k ((hf.each j hj).own k hk).1, hf.asc⟩, ha.keep fun k hk => e k (ha.own k hk).1⟩

end Go.Proofs.YtmcbbjobjogkmabGreat

namespace Go.Proofs.YtmcbbjobjogkmabGreat
open Go.RowKit
set_option linter.unusedVariables false
set_option linter.unusedSimpArgs false

def innP (o : Int) (k : Nat) : Bool := !((k : Int) == o)

noncomputable def innW (ns ls : List Nd) : List Int := fltN (innP (outW ns ls)) (wF ns ls).length

theorem innW_len (ns ls : List Nd) : (innW ns ls).length ≤ 40 := by
  have := fltN_len (innP (outW ns ls)) (wF ns ls).length
  have := wF_len (ns := ns) (ls := ls)
  unfold innW
  omega

theorem innW_at {ns ls : List Nd} {i : Nat} (h : i < (innW ns ls).length) : ∃ k : Nat, atZ (innW ns ls) i = (k : Int) ∧ k < (wF ns ls).length := by
  obtain ⟨k, h1, h2, _⟩ := (fltN_mem (innP (outW ns ls)) (wF ns ls).length (atZ (innW ns ls) i)).1 (by rw [← atZ_get h]; exact List.getElem_mem h)
  exact ⟨k, h1, h2⟩

/-- The least of some numbers, or 3001. -/
def mnX (hs l : List Int) : Int := l.foldl (fun a x => min a (atZ hs x.toNat)) 3001

theorem mnX_app (hs l : List Int) (x : Int) : mnX hs (l ++ [x]) = min (mnX hs l) (atZ hs x.toNat) := by unfold mnX; rw [List.foldl_append]; rfl

def olX (hs l : List Int) : List Int := l.filter fun x => atZ hs x.toNat == mnX hs l

theorem mnX_le (hs : List Int) : ∀ (n : Nat) (l : List Int), l.length = n → ∀ x, x ∈ l → mnX hs l ≤ atZ hs x.toNat
  | 0, l, h, x, hx => by
    rw [List.length_eq_zero_iff] at h
    subst h
    simp at hx
  | n + 1, l, h, x, hx => by
    obtain ⟨t, y, rfl⟩ : ∃ t y, l = t ++ [y] := ⟨l.dropLast, l.getLast (by intro e; subst e; simp at h), (List.dropLast_concat_getLast _).symm⟩
    rw [mnX_app]
    rw [List.mem_append] at hx
    rcases hx with hx | hx
    · have := mnX_le hs n t (by simpa using h) x hx
      omega
    · have e : x = y := by simpa using hx
      subst e
      omega

theorem olX_less {hs l : List Int} {x : Int} (h : atZ hs x.toNat < mnX hs l) : mnX hs (l ++ [x]) = atZ hs x.toNat ∧ olX hs (l ++ [x]) = [x] := by
  have e : mnX hs (l ++ [x]) = atZ hs x.toNat := by rw [mnX_app]; omega
  refine ⟨e, ?_⟩
  unfold olX
  rw [e, List.filter_append, List.filter_eq_nil_iff.2 (fun y hy => by
    have := mnX_le hs _ l rfl y hy
    simp only [beq_iff_eq]
    omega)]
  simp

theorem olX_same {hs l : List Int} {x : Int} (h : atZ hs x.toNat = mnX hs l) : mnX hs (l ++ [x]) = mnX hs l ∧ olX hs (l ++ [x]) = olX hs l ++ [x] := by
  have e : mnX hs (l ++ [x]) = mnX hs l := by rw [mnX_app]; omega
  refine ⟨e, ?_⟩
  unfold olX
  rw [e, List.filter_append]
  simp [h]

theorem olX_more {hs l : List Int} {x : Int} (h : mnX hs l < atZ hs x.toNat) : mnX hs (l ++ [x]) = mnX hs l ∧ olX hs (l ++ [x]) = olX hs l := by
  have e : mnX hs (l ++ [x]) = mnX hs l := by rw [mnX_app]; omega
  refine ⟨e, ?_⟩
  unfold olX
  rw [e, List.filter_append, List.filter_cons_of_neg (by simp; omega)]
  simp

def mnF (hs : List Int) (p : Nat → Bool) : Nat → Int
  | 0 => 3001
  | n + 1 => if p n = true then min (mnF hs p n) (atZ hs n) else mnF hs p n

theorem mnF_succ (hs : List Int) (p : Nat → Bool) (n : Nat) : mnF hs p (n + 1) = if p n = true then min (mnF hs p n) (atZ hs n) else mnF hs p n := rfl

theorem mnX_flt (hs : List Int) (p : Nat → Bool) : ∀ n, mnX hs (fltN p n) = mnF hs p n
  | 0 => rfl
  | n + 1 => by
    rw [fltN_succ, mnF_succ]
    by_cases hp : p n = true
    · rw [if_pos hp, if_pos hp, mnX_app, mnX_flt hs p n]
      rfl
    · rw [if_neg hp, if_neg hp, mnX_flt hs p n]

theorem flt_filter (p : Nat → Bool) (q : Int → Bool) : ∀ n, (fltN p n).filter q = fltN (fun k => p k && q (k : Int)) n
  | 0 => rfl
  | n + 1 => by
    rw [fltN_succ, fltN_succ, ← flt_filter p q n]
    by_cases hp : p n = true
    · rw [if_pos hp, List.filter_append]
      by_cases hq : q (n : Int) = true
      · simp [hp, hq]
      · simp [hp, hq]
    · rw [if_neg hp, if_neg (by simp [hp])]

noncomputable def oldW (ns ls : List Nd) (hs : List Int) : List Int := if listB ns ls 0 3000 hs = true then olX hs (innW ns ls) else []

theorem oldW_len (ns ls : List Nd) (hs : List Int) : (oldW ns ls hs).length ≤ 40 := by
  unfold oldW
  split
  · have := innW_len ns ls
    have := List.length_filter_le (fun x => atZ hs x.toNat == mnX hs (innW ns ls)) (innW ns ls)
    unfold olX
    omega
  · simp

theorem oldW_is {ns ls : List Nd} {hs : List Int} (h : listB ns ls 0 3000 hs = true) : oldW ns ls hs = fltN (fun k => innP (outW ns ls) k && (atZ hs k == mnF hs (innP (outW ns ls)) (wF ns ls).length)) (wF ns ls).length := by
  unfold oldW olX innW
  rw [if_pos h, flt_filter, mnX_flt]
  rfl

end Go.Proofs.YtmcbbjobjogkmabGreat
