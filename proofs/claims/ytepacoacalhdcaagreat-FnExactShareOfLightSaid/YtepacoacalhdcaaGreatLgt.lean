/-
  The light that comes in, of the program: the stains are taken in any order.
-/
import Derived.Test.YtepacoacalhdcaaGreatStg
import Derived.Test.YtepacoacalhdcaaGreatG42
import Derived.Maps.RangeWalk
namespace Go.Proofs.YtepacoacalhdcaaGreat
open Go.RowKit Go.Maps
set_option linter.unusedVariables false
set_option linter.unusedSimpArgs false

/-- What a map reads as, whatever the world. -/
def MapD (D : DataW Value) (ks : List Nat) (us : List Value) : Prop :=
  ks.length = us.length ∧ (∀ x : Int, Maps.has D (.int .i64 x) = true ↔ ∃ k : Nat, k ∈ ks ∧ x = k) ∧ ∀ i (hi : i < ks.length), ∀ z, D.atKey (keyL ks[i]) z = .held (atV us i)

theorem usL_at {ns ls : List Nd} {xs : List Tr} {i : Nat} (hi : i < (innN ns ls).length) : atV (usL ns ls xs) i = (atT xs (innN ns ls)[i]).val := by
  have hu : i < (usL ns ls xs).length := by unfold usL; rw [List.length_map]; exact hi
  unfold atV
  rw [List.getD_eq_getElem?_getD, List.getElem?_eq_getElem hu, Option.getD_some]
  simp only [usL, List.getElem_map]

theorem key_same (a b : Nat) : (keyL a).sameKey (keyL b) = decide (a = b) := by
  by_cases e : a = b
  · subst e
    rw [decide_eq_true rfl]
    simp [keyL, Lit.sameKey]
  · rw [decide_eq_false e]
    exact sameKey_ne (keyL_ne e)

theorem rng_entry {D : DataW Value} {ns ls : List Nd} {xs : List Tr} (hM : MapD D (innN ns ls) (usL ns ls xs)) {x : Int} {c : Value} {kl : Lit} {y : DataW Value × List MemPlace} (hk : keyOf Tryz.prog 3 (.int .i64 x) = some kl) (hhas : Maps.has D kl = true) (hR : heldR c = some y) (hat : ∀ zd, D.atKey kl zd = y.1) :
    ∃ k : Nat, k ∈ innN ns ls ∧ x = (k : Int) ∧ kl = keyL k ∧ c = (atT xs k).val := by
  obtain ⟨x', e, rfl, -⟩ := keyOf_int_inv Tryz.underlying3 hk
  cases e
  obtain ⟨k, hkm, rfl⟩ := (hM.2.1 x).1 hhas
  obtain ⟨i, hi, rfl⟩ := List.getElem_of_mem hkm
  have h1 := hM.2.2 i hi (.held undef)
  have h2 := hat (.held undef)
  rw [show (Lit.int .i64 ((innN ns ls)[i] : Int)) = keyL (innN ns ls)[i] from rfl, h1, usL_at hi] at h2
  have h3 : y = (DataW.held c, []) := (Option.some.inj hR).symm
  rw [h3] at h2
  exact ⟨_, hkm, rfl, rfl, (DataW.held.inj h2).symm⟩

/-- The step of the range over the stains, at the operation. -/
theorem wpList_nextT (w : World) {ops : Array Oper} {rest : List Oper} {o : Oper} {a : Act} {Q : Exit → Act → World → Prop} (hg : o.guard = none) (it : Operand) (hop : o.op = Op.next it false) {b r n : Nat} {D : DataW Value} {left : Lit → Bool} {cnt : Nat} {ns ls : List Nd} {xs : List Tr}
    (hit : a.eval it = .pointer (some ⟨r, 0, none⟩)) (h : w.ranges Tryz.prog 3 heldR b r n D left cnt) (hsub : ∀ kl, left kl = true → Maps.has D kl = true) (hM : MapD D (innN ns ls) (usL ns ls xs))
    (hDone : (∀ kl, left kl = false) → wpList Tryz.prog ops Q rest (a.put o.dst (.tuple #[.bool false])) w)
    (hMore : ∀ (k : Nat) (w' : World) (cnt' : Nat), k ∈ innN ns ls → left (keyL k) = true → w'.ranges Tryz.prog 3 heldR b r n D (fun z => left z && !z.sameKey (keyL k)) cnt' → cnt' < cnt → w.grownBy w' (some r) → w'.heap.size = w.heap.size →
      (Instr.entry (.pointer (some ⟨r, 0, none⟩))).run Tryz.prog w' = .ok (.tuple #[.int .i64 (k : Int), (atT xs k).val]) w' → wpList Tryz.prog ops Q rest (a.put o.dst (.tuple #[.bool true, .int .i64 (k : Int), (atT xs k).val])) w') :
    wpList Tryz.prog ops Q (o :: rest) a w := by
  refine wpList_next_ranges w hg it hop 3 mapLaw heldR (Value.int .i64) id (fun key kl hkey => by obtain ⟨x, rfl, _⟩ := keyOf_int_inv Tryz.underlying3 hkey; exact ⟨x, rfl⟩) (fun v y hv => ⟨v, rfl⟩) b r n D left cnt hit h (fun _ hl => hDone hl) ?_
  intro x c kl y w' cnt' hkey hlk hv hat hrg hlt hgr hsz hen
  obtain ⟨k, h1, rfl, rfl, h4⟩ := rng_entry hM hkey (hsub _ hlk) hv hat
  simp only [id] at h4 hen ⊢
  subst h4
  exact hMore k w' cnt' h1 hlk hrg hlt hgr hsz hen

noncomputable def lgS (ns ls : List Nd) (xs : List Tr) (g : Tr → Int) (left : Lit → Bool) : Int := ligL (ligT ns ls xs g) (wF ns ls).length fun k => left (keyL k)

theorem lgS_start {ns ls : List Nd} {xs : List Tr} {g : Tr → Int} {D : DataW Value} (hM : MapD D (innN ns ls) (usL ns ls xs)) : lgS ns ls xs g (Maps.has D) = 0 := ligL_start fun k hk => by
  by_cases h : innP (outW ns ls) k = true
  · exact .inl ((hM.2.1 (k : Int)).2 ⟨k, innN_mem.2 ⟨hk, h⟩, rfl⟩)
  · exact .inr (if_neg h)

theorem lgS_step {ns ls : List Nd} {xs : List Tr} {g : Tr → Int} {left : Lit → Bool} {k : Nat} (hk : k ∈ innN ns ls) (hl : left (keyL k) = true) : lgS ns ls xs g (fun z => left z && !z.sameKey (keyL k)) = lgS ns ls xs g left + areaW ns ls (k : Int) * g (atT xs k) := by
  obtain ⟨h1, h2⟩ := innN_mem.1 hk
  have e := ligL_step (T := ligT ns ls xs g) (n := (wF ns ls).length) (left := fun k => left (keyL k)) (left' := fun i => left (keyL i) && !(keyL i).sameKey (keyL k)) h1 hl fun i => by rw [key_same]
  unfold lgS
  rw [e, show ligT ns ls xs g k = areaW ns ls (k : Int) * g (atT xs k) from if_pos h2]

theorem lgS_end {ns ls : List Nd} {xs : List Tr} {g : Tr → Int} {left : Lit → Bool} (hb : lgtB ns ls xs = true) (h : ∀ kl, left kl = false) : lgS ns ls xs g left = ligW ns ls xs g := by
  unfold ligW
  rw [if_pos hb]
  exact ligL_end fun k => h _

theorem lgS_bd {ns ls : List Nd} {xs : List Tr} {g : Tr → Int} {c : Int} (hg : Shade g c) (hc : 0 ≤ c) (hb : lgtB ns ls xs = true) (left : Lit → Bool) : 0 ≤ lgS ns ls xs g left ∧ lgS ns ls xs g left ≤ 208000 * c := by
  have h13 := wF_thirteen ns ls
  have := ligL_bd (T := ligT ns ls xs g) (n := (wF ns ls).length) (c := 16000 * c) (fun k => left (keyL k)) (by omega) fun k hk => ligT_bd hg hc hb hk
  have h2 : 16000 * c * ((wF ns ls).length : Int) ≤ 16000 * c * 13 := Int.mul_le_mul_of_nonneg_left (by omega) (by omega)
  unfold lgS
  omega

/-- What is known of a face and its stain. -/
theorem lgt_at {ns ls : List Nd} {xs : List Tr} (hb : lgtB ns ls xs = true) {k : Nat} (hk : k ∈ innN ns ls) : k < (wF ns ls).length ∧ k ≤ 1000 ∧ (0 ≤ areaW ns ls (k : Int) ∧ areaW ns ls (k : Int) ≤ 16000) ∧ (0 ≤ (atT xs k).x ∧ (atT xs k).x ≤ 1000) ∧ (0 ≤ (atT xs k).y ∧ (atT xs k).y ≤ 1000) ∧ (0 ≤ (atT xs k).z ∧ (atT xs k).z ≤ 1000) := by
  obtain ⟨h1, h2⟩ := innN_mem.1 hk
  obtain ⟨-, hl, hs⟩ := lgtB_parts hb
  have h13 := wF_thirteen ns ls
  exact ⟨h1, by omega, area_nnB ((idxB_iff _ _).2 (show 0 ≤ (k : Int) ∧ (k : Int) < ((wF ns ls).length : Int) by omega)), stain_in (hs k (by omega))⟩

theorem grown_of_below {w w' : World} (b : Below w.heap.size w w') : w.grownBy w' none := ⟨b.os, b.tape, b.output, b.size, fun i hi _ => b.block i hi⟩

theorem below_of_grown {B r : Nat} {w0 w w' : World} (b : Below w0.heap.size w0 w) (h : w.grownBy w' (some r)) (hr : w0.heap.size ≤ r) : Below w0.heap.size w0 w' :=
  b.trans ⟨h.os, h.tape, h.output, h.size, fun p hp => h.block p (Nat.lt_of_lt_of_le hp b.size) (fun e => by injection e with e; omega)⟩

def ColIs (a b c : Int) (w : World) (e : Ending) (w' : World) : Prop := e = .returned (.tuple #[.int .i64 a, .int .i64 b, .int .i64 c]) ∧ Below w.heap.size w w'

set_option maxRecDepth 100000 in
set_option maxHeartbeats 4000000 in
theorem implLightYes (ns ls : List Nd) (xs : List Tr) (vn vl v : Value) (w : World) (hn : Prs w vn ns) (hl : Prs w vl ls) (hv : Trs w v xs) (hlb : lgtB ns ls xs = true) :
    Calls Tryz.prog 51 #[.agg #[vn, vl], v] w (ColIs (ligW ns ls xs Tr.x) (ligW ns ls xs Tr.y) (ligW ns ls xs Tr.z) w) := by
  have hh := (lgtB_parts hlb).1
  have HSY := Lib.hid (fun w h1 h2 h3 => implStfYes ns ls xs vn vl v w h1 h2 h3 hlb)
  unfold StfYes at HSY
  have HN := Lib.hid hn
  have HL := Lib.hid hl
  have HV := Lib.hid hv
  have HA := Lib.hid (fun (k : Nat) (hk : k < (wF ns ls).length) v3 v4 B W (h1 : Prs W vn ns) (h2 : Prs W vl ls) (h3 : Faces W B v3 (wF ns ls)) (h4 : Ints W B v4 (atW ns ls)) =>
    implAreaG ns ls k hk vn vl v3 v4 B W (by rw [show gN ns ls = ns from if_pos hh]; exact h1) (by rw [show gL ns ls = ls from if_pos hh]; exact h2) h3 (by rw [show gA ns ls = atW ns ls from if_pos hh]; exact h4))
  unfold IntIs at HA
  have HAT := Lib.hid (fun (k : Nat) (hk : k ∈ innN ns ls) => lgt_at hlb hk)
  have HX0 := Lib.hid (fun (D : DataW Value) (h : MapD D (innN ns ls) (usL ns ls xs)) => lgS_start (g := Tr.x) h)
  have HY0 := Lib.hid (fun (D : DataW Value) (h : MapD D (innN ns ls) (usL ns ls xs)) => lgS_start (g := Tr.y) h)
  have HZ0 := Lib.hid (fun (D : DataW Value) (h : MapD D (innN ns ls) (usL ns ls xs)) => lgS_start (g := Tr.z) h)
  have HXS := Lib.hid (fun (left : Lit → Bool) (k : Nat) (hk : k ∈ innN ns ls) (hl : left (keyL k) = true) => lgS_step (xs := xs) (g := Tr.x) hk hl)
  have HYS := Lib.hid (fun (left : Lit → Bool) (k : Nat) (hk : k ∈ innN ns ls) (hl : left (keyL k) = true) => lgS_step (xs := xs) (g := Tr.y) hk hl)
  have HZS := Lib.hid (fun (left : Lit → Bool) (k : Nat) (hk : k ∈ innN ns ls) (hl : left (keyL k) = true) => lgS_step (xs := xs) (g := Tr.z) hk hl)
  have HXE := Lib.hid (fun (left : Lit → Bool) (h : ∀ kl, left kl = false) => lgS_end (g := Tr.x) hlb h)
  have HYE := Lib.hid (fun (left : Lit → Bool) (h : ∀ kl, left kl = false) => lgS_end (g := Tr.y) hlb h)
  have HZE := Lib.hid (fun (left : Lit → Bool) (h : ∀ kl, left kl = false) => lgS_end (g := Tr.z) hlb h)
  have HXB := Lib.hid (fun (left : Lit → Bool) => lgS_bd shadeX (by omega) hlb left)
  have HYB := Lib.hid (fun (left : Lit → Bool) => lgS_bd shadeY (by omega) hlb left)
  have HZB := Lib.hid (fun (left : Lit → Bool) => lgS_bd shadeZ (by omega) hlb left)
  generalize lgS ns ls xs Tr.x = Sx at *
  generalize lgS ns ls xs Tr.y = Sy at *
  generalize lgS ns ls xs Tr.z = Sz at *
  unfold ColIs
  generalize ligW ns ls xs Tr.x = Lx at *
  generalize ligW ns ls xs Tr.y = Ly at *
  generalize ligW ns ls xs Tr.z = Lz at *
  have H0 := Lib.hid (held_pair w vn vl 32)
  obtain ⟨A, c, rfl⟩ := prs_form2 hn
  obtain ⟨A2, c2, rfl⟩ := prs_form2 hl
  obtain ⟨A3, c3, rfl⟩ := hv.form2
  clear hn hl hv hh hlb
  go_enter Tryz.func51, Tryz.ntmps51
  obtain ⟨x0, x1, _⟩ := H0.out.1
  go_wp2_with fail
  clear x0 x1
  refine (HSY.out _ (HN.out.step H0.out.below) (HL.out.step H0.out.below) (HV.out.step H0.out.below)).mono ?_
  rintro e w1 ⟨vf, va, bm, rfl, hfi, hm, -, hb⟩
  have H1 := Lib.hid (H0.out.step hb)
  have HFI1 := Lib.hid hfi
  obtain ⟨A7, c7, rfl⟩ := faces_form hfi.f
  obtain ⟨A8, c8, rfl⟩ := ints_form hfi.a
  have H2 := Lib.hid (H1.out.new2 w1.heap.size rfl [.slice A ns.length c, .slice A2 ls.length c2, .slice A7 (wF ns ls).length c7, .slice A8 (atW ns ls).length c8] 98)
  simp only [newFs, List.cons_append, List.nil_append, List.append_nil] at H2
  have bg := below_alloc w1 (.cells #[.slice A ns.length c, .slice A2 ls.length c2, .slice A7 (wF ns ls).length c7, .slice A8 (atW ns ls).length c8] 98)
  have HFI := Lib.hid (HFI1.out.step bg)
  obtain ⟨D, hown, hmd⟩ := hm.step bg
  have HMD := Lib.hid (show MapD D (innN ns ls) (usL ns ls xs) from hmd)
  have HOW := Lib.hid hown
  clear hmd hown hm hb hfi HFI1 H1 bg
  go_wp2_with (at_range; refine wpList_range_own _ rfl _ 142 rfl 3 139 mapLaw Tryz.underlying142 heldR bm _ D rfl HOW.out ?_; intro w0 hrg0 hg0 hs0)
  generalize w1.alloc (.cells #[.slice A ns.length c, .slice A2 ls.length c2, .slice A7 (wF ns ls).length c7, .slice A8 (atW ns ls).length c8] 98) = W8 at *
  go_frame
  have HRG0 := Lib.hid hrg0
  have B0 := Lib.hid (show Below W8.heap.size W8 w0 from ⟨hg0.os, hg0.tape, hg0.output, hg0.size, fun p hp => hg0.block p hp (by simp)⟩)
  clear hrg0 hg0 hs0
  go_loopw [9, 10, 11] (fun r g b wr => ∃ (left : Lit → Bool) (cnt : Nat), wr.ranges Tryz.prog 3 heldR bm W8.heap.size (innN ns ls).length D left cnt ∧ (∀ kl, left kl = true → Maps.has D kl = true) ∧ r = .int .i64 (Sx left) ∧ g = .int .i64 (Sy left) ∧ b = .int .i64 (Sz left) ∧ Below W8.heap.size W8 wr) (fun _ _ _ wr => wr.rangeLeft bm W8.heap.size)
  case atStart => exact ⟨_, _, HRG0.out, fun _ h => h, by rw [HX0.out D HMD.out], by rw [HY0.out D HMD.out], by rw [HZ0.out D HMD.out], B0.out⟩
  case round =>
    clear HRG0 B0
    obtain ⟨left, cnt, hrg, hsub, rfl, rfl, rfl, hbb⟩ := hrel
    have HRG := Lib.hid hrg; clear hrg
    have HSUB := Lib.hid hsub; clear hsub
    have BB := Lib.hid hbb; clear hbb
    go_wp2_with (at_next; refine wpList_nextT _ rfl _ rfl rfl HRG.out HSUB.out HMD.out ?_ ?_)
    · intro hl0
      rw [HXE.out left hl0, HYE.out left hl0, HZE.out left hl0]
      go_wp2_with fail
      refine bodyPost_ret (v := .tuple #[.int .i64 Lx, .int .i64 Ly, .int .i64 Lz]) (by simp [results, Tryz.results51, go_sem]) rfl ?_
      exact ⟨rfl, H2.out.below.trans (BB.out.mono H2.out.below.size)⟩
    · intro k w2 cnt2 hkm hlk hrg2 hlt2 hg2 hs2 hen
      have HKM := Lib.hid hkm; clear hkm
      have HLK := Lib.hid hlk; clear hlk
      have HRG2 := Lib.hid hrg2; clear hrg2
      have HLT := Lib.hid hlt2; clear hlt2
      have B2 := Lib.hid (below_of_grown (B := 0) BB.out hg2 (Nat.le_refl _))
      clear hg2 hs2
      obtain ⟨hkn, hk1, hA0, hX0, hY0, hZ0⟩ := HAT.out k HKM.out
      have hXS := HXS.out left k HKM.out HLK.out
      have hYS := HYS.out left k HKM.out HLK.out
      have hZS := HZS.out left k HKM.out HLK.out
      have hXB := HXB.out left
      have hYB := HYB.out left
      have hZB := HZB.out left
      have HAK := Lib.hid (HA.out k hkn)
      generalize areaW ns ls (k : Int) = ar at *
      generalize atT xs k = t at *
      obtain ⟨tx, ty, tz⟩ := t
      simp only [Tr.val] at hen hX0 hY0 hZ0 hXS hYS hZS ⊢
      have H3 := Lib.hid (((H2.out.step B2.out)).new2 w2.heap.size rfl [.int .i64 tx, .int .i64 ty, .int .i64 tz] 139)
      simp only [newFs, List.cons_append, List.nil_append, List.append_nil] at H3
      have b3 := below_alloc w2 (.cells #[.int .i64 tx, .int .i64 ty, .int .i64 tz] 139)
      have HRG3 := Lib.hid (HRG2.out.alloc (.cells #[.int .i64 tx, .int .i64 ty, .int .i64 tz] 139))
      have B3 := Lib.hid (B2.out.trans (b3.mono B2.out.size))
      clear b3
      obtain ⟨x0, x1, x2, x3, x4, x5, x6, x7, x8, _⟩ := H3.out.1
      go_wp2_with fail
      refine (HAK.out _ _ _ _ (HN.out.step (H2.out.below.trans (B3.out.mono H2.out.below.size))) (HL.out.step (H2.out.below.trans (B3.out.mono H2.out.below.size))) (HFI.out.step B3.out).f (HFI.out.step B3.out).a).mono ?_
      rintro e w3 ⟨rfl, hb⟩
      have H4 := Lib.hid (H3.out.step hb)
      have HRG4 := Lib.hid (HRG3.out.kept (grown_of_below hb) (by simp) (by simp))
      have B4 := Lib.hid (B3.out.trans (hb.mono B3.out.size))
      clear hb H3 HRG3 HRG2 B2 B3 x0 x1 x2 x3 x4 x5 x6 x7 x8 hen
      obtain ⟨p1, hp1⟩ : ∃ p : Int, ar * tx = p := ⟨_, rfl⟩
      obtain ⟨p2, hp2⟩ : ∃ p : Int, ar * ty = p := ⟨_, rfl⟩
      obtain ⟨p3, hp3⟩ : ∃ p : Int, ar * tz = p := ⟨_, rfl⟩
      have q1 := shade_mul hA0 hX0
      have q2 := shade_mul hA0 hY0
      have q3 := shade_mul hA0 hZ0
      rw [hp1] at q1 hXS
      rw [hp2] at q2 hYS
      rw [hp3] at q3 hZS
      have HXS1 := Lib.hid hXS
      have HYS1 := Lib.hid hYS
      have HZS1 := Lib.hid hZS
      clear hXS hYS hZS
      generalize Sx left = sx at *
      generalize Sy left = sy at *
      generalize Sz left = sz at *
      have u1 : IntKind.i64.wrap (ar * tx) = p1 := by rw [hp1]; exact IntWalk.i64_in _ (by omega)
      have u2 : IntKind.i64.wrap (ar * ty) = p2 := by rw [hp2]; exact IntWalk.i64_in _ (by omega)
      have u3 : IntKind.i64.wrap (ar * tz) = p3 := by rw [hp3]; exact IntWalk.i64_in _ (by omega)
      have u4 : IntKind.i64.wrap (sx + p1) = sx + p1 := IntWalk.i64_in _ (by omega)
      have u5 : IntKind.i64.wrap (sy + p2) = sy + p2 := IntWalk.i64_in _ (by omega)
      have u6 : IntKind.i64.wrap (sz + p3) = sz + p3 := IntWalk.i64_in _ (by omega)
      clear hp1 hp2 hp3
      have H4b := Lib.hid (H4.out.only (fun ⟨a, b, c, _⟩ => ⟨a, b, c, trivial⟩) (fun ⟨a, b, c, _⟩ => ⟨a, b, c, trivial⟩) : Held w w3 [(w2.heap.size, 0, .int .i64 tx), (w2.heap.size, 0 + 1, .int .i64 ty), (w2.heap.size, 0 + 1 + 1, .int .i64 tz)])
      have H4c := Lib.hid (Held.start H4b.out.1 H4b.out.2.1)
      clear H4 H4b
      go_wp2_with fail
      refine regionD (S := fun W => Held _ W [(w2.heap.size, 0, .int .i64 tx), (w2.heap.size, 0 + 1, .int .i64 ty), (w2.heap.size, 0 + 1 + 1, .int .i64 tz)]) (by kernel_rfl) H4c.out.drew ?_
      iterate 21 (refine takeT (v := ?_) rfl (by kernel_rfl) (by kernel_rfl) (by kernel_rfl) ?_ ?_; rotate_left; (first | (refine Or.inr ⟨by rfl, ?_⟩; with_reducible rfl) | (refine Or.inl ⟨by rfl, fun W hS => detRes_value (w' := W) ?_ hS⟩; obtain ⟨x0, x1, x2, _⟩ := hS.1; go_simp; first | done | with_reducible rfl) | fail); (simp only [Act.put, List.setIfInBounds_toArray, List.set_cons_zero, List.set_cons_succ]))
      refine doneD (by kernel_rfl) fun wH5 HS => ?_
      have H5 := Lib.hid HS; clear HS
      try clear x0 x1 x2
      obtain ⟨x0, x1, x2, _⟩ := H5.out.1
      go_wp2_with fail
      have B5 := Lib.hid (B4.out.trans (H5.out.below.mono B4.out.size))
      have HRG5 := Lib.hid (HRG4.out.kept (grown_of_below H5.out.below) (by simp) (by simp))
      go_wp2_with fail
      refine ⟨⟨_, cnt2, HRG5.out, fun kl hkl => HSUB.out kl (by simp only [Bool.and_eq_true] at hkl; exact hkl.1), by rw [HXS1.out], by rw [HYS1.out], by rw [HZS1.out], B5.out⟩, ?_⟩
      rw [HRG5.out.left_eq, HRG.out.left_eq]
      exact HLT.out

theorem wpList_range_nil (w : World) {ops : Array Oper} {rest : List Oper} {o : Oper} {a : Act} {Q : Exit → Act → World → Prop} (hg : o.guard = none) (m : Operand) (hop : o.op = Op.range 142 m) (hm : a.eval m = .map none)
    (hK : wpList Tryz.prog ops Q rest (a.put o.dst (.pointer (some ⟨w.heap.size, 0, none⟩))) (w.alloc (.mapIter none 0 #[] 0))) : wpList Tryz.prog ops Q (o :: rest) a w := by
  refine wpList_plain hg fun K' hK' => ?_
  have hrun := run_range_nilMap (P := Tryz.prog) w 142 3 139 Tryz.underlying142
  unfold Oper.wp
  simp [execOp, hop, hm, hrun, Result.andThen]
  exact hK' _ _ hK

theorem wpList_next_nil (w : World) {ops : Array Oper} {rest : List Oper} {o : Oper} {a : Act} {Q : Exit → Act → World → Prop} (hg : o.guard = none) (it : Operand) (hop : o.op = Op.next it false) (hit : a.eval it = .pointer (some ⟨w.heap.size, 0, none⟩))
    (hK : wpList Tryz.prog ops Q rest (a.put o.dst (.tuple #[.bool false])) (w.alloc (.mapIter none 0 #[] 0))) : wpList Tryz.prog ops Q (o :: rest) a (w.alloc (.mapIter none 0 #[] 0)) := by
  refine wpList_plain hg fun K' hK' => ?_
  have hrun := run_next_nilMap (P := Tryz.prog) w o.type 0 0 #[]
  unfold Oper.wp
  simp [execOp, hop, hit, hrun, Result.andThen]
  exact hK' _ _ hK

set_option maxRecDepth 100000 in
set_option maxHeartbeats 4000000 in
theorem implLightNo (ns ls : List Nd) (xs : List Tr) (vn vl v : Value) (w : World) (hn : Prs w vn ns) (hl : Prs w vl ls) (hv : Trs w v xs) (hlb : lgtB ns ls xs = false) :
    Calls Tryz.prog 51 #[.agg #[vn, vl], v] w (ColIs 0 0 0 w) := by
  have HSN := Lib.hid (fun w h1 h2 h3 => implStfNo ns ls xs vn vl v w h1 h2 h3 hlb)
  unfold StfNo at HSN
  have HN := Lib.hid hn
  have HL := Lib.hid hl
  have HV := Lib.hid hv
  unfold ColIs
  have H0 := Lib.hid (held_pair w vn vl 32)
  obtain ⟨A, c, rfl⟩ := prs_form2 hn
  obtain ⟨A2, c2, rfl⟩ := prs_form2 hl
  obtain ⟨A3, c3, rfl⟩ := hv.form2
  clear hn hl hv hlb
  go_enter Tryz.func51, Tryz.ntmps51
  obtain ⟨x0, x1, _⟩ := H0.out.1
  go_wp2_with fail
  clear x0 x1
  refine (HSN.out _ (HN.out.step H0.out.below) (HL.out.step H0.out.below) (HV.out.step H0.out.below)).mono ?_
  rintro e w1 ⟨rfl, hb⟩
  have H1 := Lib.hid (H0.out.step hb)
  have H2 := Lib.hid (H1.out.new2 w1.heap.size rfl [.slice none 0 0, .slice none 0 0, .slice none 0 0, .slice none 0 0] 98)
  clear hb H1
  go_wp2_with (at_range; refine wpList_range_nil _ rfl _ rfl rfl ?_)
  generalize w1.alloc (.cells #[.slice none 0 0, .slice none 0 0, .slice none 0 0, .slice none 0 0] 98) = W8 at *
  go_frame
  refine wp_loop_rounds 1 ?_
  rw [rounds_succ]
  go_wp2_with (at_next; refine wpList_next_nil _ rfl _ rfl rfl ?_)
  refine bodyPost_ret (v := .tuple #[.int .i64 0, .int .i64 0, .int .i64 0]) (by simp [results, Tryz.results51, go_sem]) rfl ?_
  exact ⟨rfl, H2.out.below.trans ((below_alloc W8 (.mapIter none 0 #[] 0)).mono H2.out.below.size)⟩

theorem implLight (ns ls : List Nd) (xs : List Tr) (vn vl v : Value) (w : World) (hn : Prs w vn ns) (hl : Prs w vl ls) (hv : Trs w v xs) :
    Calls Tryz.prog 51 #[.agg #[vn, vl], v] w (ColIs (ligW ns ls xs Tr.x) (ligW ns ls xs Tr.y) (ligW ns ls xs Tr.z) w) := by
  by_cases h : lgtB ns ls xs = true
  · exact implLightYes ns ls xs vn vl v w hn hl hv h
  · have := implLightNo ns ls xs vn vl v w hn hl hv (by simpa using h)
    unfold ligW
    rw [if_neg h, if_neg h, if_neg h]
    exact this
end Go.Proofs.YtepacoacalhdcaaGreat
