/-
  Several texts in one: a claim has at most 60 files.
-/
import Derived.Test.YtepacoacalhdcaaGreatG2
import Derived.Test.YtepacoacalhdcaaGreatShelf
import Derived.Sort.Row
import Derived.Test.YtepacoacalhdcaaGreatAro
import Derived.Test.YtepacoacalhdcaaGreatG1
import Derived.Laws.AppendOwn
import Derived.Laws.OwnMore
import Derived.Test.YtepacoacalhdcaaGreatSortF
import Derived.Test.YtepacoacalhdcaaGreatG25

namespace Go.Proofs.YtepacoacalhdcaaGreat
open Go.RowKit
set_option linter.unusedVariables false
set_option linter.unusedSimpArgs false

theorem meet_same (a b : Nd) : meetB a b a b = true := by
  rw [meet_prog]
  simp

theorem leads_differ {ns ls : List Nd} (hw : winB ns ls = true) {i j : Nat} (hij : i < j) (hj : j < ls.length) : atN ls i ≠ atN ls j := fun e => by
  have h := (((winB_iff ns ls).1 hw).2.2 j hj)
  have hc := h.2.1 i hij
  rw [e] at hc
  unfold crossB at hc
  rw [h.1, meet_same] at hc
  simp at hc

theorem ends_differ {ns ls : List Nd} (hw : winB ns ls = true) {d e : Nat} (hde : d < e) (he : e < 2 * ls.length) {k : Int} (h1 : dF ls d = k) (h2 : dF ls e = k) : dT ls d ≠ dT ls e := fun ht => by
  obtain ⟨p, q, ed, hpq, _⟩ := leadOkB_spec (((winB_iff ns ls).1 hw).2.2 (d / 2) (by omega)).1
  obtain ⟨r, s, ee, hrs, _⟩ := leadOkB_spec (((winB_iff ns ls).1 hw).2.2 (e / 2) (by omega)).1
  by_cases hq : d / 2 = e / 2
  · rw [hq] at ed
    rw [ed] at ee
    injection ee with e1 e2
    unfold dF at h1 h2
    rw [if_neg (by omega), hq, ed] at h1
    rw [if_pos (by omega), ed] at h2
    simp only at h1 h2
    omega
  · have hne := leads_differ hw (show d / 2 < e / 2 by omega) (by omega)
    rw [ed, ee] at hne
    apply hne
    unfold dF dT at *
    rw [ed] at h1 ht
    rw [ee] at h2 ht
    simp only at h1 h2 ht
    have hx : (p : Int) = r ∧ (q : Int) = s := by
      by_cases hd : d % 2 = 1
      · rw [if_pos hd] at h1 ht
        by_cases he2 : e % 2 = 1
        · rw [if_pos he2] at h2 ht; omega
        · rw [if_neg he2] at h2 ht; omega
      · rw [if_neg hd] at h1 ht
        by_cases he2 : e % 2 = 1
        · rw [if_pos he2] at h2 ht; omega
        · rw [if_neg he2] at h2 ht; omega
    rw [hx.1, hx.2]

/-- The darts before n that begin at node k. -/
def fromL (ls : List Nd) (k n : Nat) : List Int := fltN (fun d => decide (dF ls d = k)) n

theorem from_mem {ls : List Nd} {k n : Nat} {x : Int} : x ∈ fromL ls k n ↔ ∃ d : Nat, x = d ∧ d < n ∧ dF ls d = k := by
  unfold fromL
  rw [fltN_mem]
  simp

theorem from_le {ns ls : List Nd} (hw : winB ns ls = true) (k : Nat) : (fromL ls k (2 * ls.length)).length ≤ 12 := by
  have h12 := ((winB_iff ns ls).1 hw).1.1.2
  have h := nodup_le ns.length ((fromL ls k (2 * ls.length)).map fun d => dT ls d.toNat) ?_ ?_
  · rw [List.length_map] at h; omega
  · unfold List.Nodup
    rw [List.pairwise_map]
    refine (fltN_asc _ _).imp_of_mem fun {a b} ha hb hab => ?_
    obtain ⟨d, rfl, hd, h1⟩ := from_mem.1 ha
    obtain ⟨e, rfl, he, h2⟩ := from_mem.1 hb
    simp only [Int.toNat_natCast]
    exact ends_differ hw (by omega) he h1 h2
  · intro x hx
    obtain ⟨y, hy, rfl⟩ := List.mem_map.1 hx
    obtain ⟨d, rfl, hd, h1⟩ := from_mem.1 hy
    obtain ⟨a, b, _, hb, _, hbn, _⟩ := dart_nat hw hd
    exact ⟨b, by simpa using hb, hbn⟩
end Go.Proofs.YtepacoacalhdcaaGreat

namespace Go.Proofs.YtepacoacalhdcaaGreat
open Go.RowKit
set_option linter.unusedVariables false
set_option linter.unusedSimpArgs false

theorem Ints.block {w : World} {B g c : Nat} {xs : List Int} (h : Ints w B (.slice (some ⟨g, 0, none⟩) xs.length c) xs) : ∃ cur, B ≤ g ∧ w.heap[g]? = some (.cells cur 3 (0, 0)) ∧ xs.length ≤ c ∧ c ≤ maxLen ∧ cur.size = c ∧ cur.toList.take xs.length = xs.map fun x => .int .i64 x := by
  rcases h.2 with ⟨hv, _⟩ | ⟨g', cap, cur, hv, hb, hg, hc, hm, hs, ht⟩
  · cases hv
  · injection hv with e1 e2 e3
    injection e1 with e1
    injection e1 with e1
    subst e1; subst e3
    exact ⟨cur, hb, hg, hc, hm, by simpa using hs, by simpa using ht⟩

theorem heap_putRow {w : World} {g : Nat} {cur : Array Value} {T : TypeId} {fr : Nat × Nat} (d : Array Int) (h : w.heap[g]? = some (.cells cur T fr)) : (Go.Sort.putRow (Value.int .i64) w g 0 d).heap[g]? = some (.cells (Go.Sort.putCells (Value.int .i64) 0 d cur) T fr) := by
  unfold Go.Sort.putRow Go.Sort.mapBlock
  rw [Array.getElem?_modify, if_pos rfl, h]
  rfl

theorem heap_putRow_ne {w : World} {g k : Nat} (d : Array Int) (h : k ≠ g) : (Go.Sort.putRow (Value.int .i64) w g 0 d).heap[k]? = w.heap[k]? := by
  unfold Go.Sort.putRow Go.Sort.mapBlock
  rw [Array.getElem?_modify, if_neg (fun e => h e.symm)]

theorem size_putRow (w : World) (g : Nat) (d : Array Int) : (Go.Sort.putRow (Value.int .i64) w g 0 d).heap.size = w.heap.size := by
  unfold Go.Sort.putRow Go.Sort.mapBlock
  simp

set_option maxRecDepth 100000 in
theorem sortInts {w : World} {B g c : Nat} {xs : List Int} (h : Ints w B (.slice (some ⟨g, 0, none⟩) xs.length c) xs) (hB : B ≤ w.heap.size) (hlen : xs.length ≤ 1048576) :
    Calls Tryz.prog 176 #[.slice (some ⟨g, 0, none⟩) xs.length c] w fun e w' => e = .returned (.tuple #[]) ∧ Ints w' B (.slice (some ⟨g, 0, none⟩) xs.length c) (xs.mergeSort fun x y => decide (x ≤ y)) ∧ Below B w w' := by
  obtain ⟨cur, hb, hg, hc, hm, hs, ht⟩ := h.block
  have hH : Go.Sort.Holds (Value.int .i64) w g 0 xs.toArray := fun j hj => by
    have hj' : j < xs.length := by simpa using hj
    obtain ⟨h1, h2, _⟩ := h.at_ hj'
    rw [Nat.zero_add]
    refine ⟨?_, h2⟩
    rw [h1, ← atZ_get hj']
    simp [hj']
  refine (Any.slices_Sort_int Tryz.lays189 g 0 c xs w hH (lt_of_block hg) (by omega)).mono ?_
  rintro e w' ⟨rfl, n, os, rfl⟩
  have hl : (xs.mergeSort fun x y => decide (x ≤ y)).length = xs.length := List.length_mergeSort _
  refine ⟨rfl, ?_, ?_⟩
  · have hblk : (Go.Sort.grow (Go.Sort.putRow (Value.int .i64) (Go.Sort.ahead w n) g 0 (xs.mergeSort fun x y => decide (x ≤ y)).toArray) os).heap[g]? = some (.cells (Go.Sort.putCells (Value.int .i64) 0 (xs.mergeSort fun x y => decide (x ≤ y)).toArray cur) 3 (0, 0)) := by
      unfold Go.Sort.grow
      show (_ ++ os)[g]? = _
      rw [Array.getElem?_append_left (by rw [size_putRow]; exact lt_of_block hg)]
      exact heap_putRow _ hg
    unfold Ints
    rw [hl]
    refine ⟨by simp [hl], .inr ⟨g, c, _, rfl, hb, hblk, hc, hm, by simp [Go.Sort.putCells, hs], ?_⟩⟩
    rw [Nat.mul_one]
    generalize (xs.mergeSort fun x y => decide (x ≤ y)) = ys at *
    apply List.ext_getElem?
    intro j
    by_cases hj : j < xs.length
    · have hjc : j < cur.size := by omega
      simp [Go.Sort.putCells, List.getElem?_take, hj, hl, hjc]
    · rw [List.getElem?_eq_none (by simp; omega), List.getElem?_eq_none (by simp; omega)]
  · refine ⟨rfl, rfl, rfl, by simp [size_putRow, Go.Sort.ahead], fun k hk => ?_⟩
    unfold Go.Sort.grow
    show (_ ++ os)[k]? = _
    rw [Array.getElem?_append_left (by rw [size_putRow]; show k < w.heap.size; omega)]
    exact heap_putRow_ne _ (by omega)

theorem containsI {w : World} {B g c : Nat} {xs : List Int} (x : Int) (h : Ints w B (.slice (some ⟨g, 0, none⟩) xs.length c) xs) (hlen : xs.length ≤ 1048576) :
    Calls Tryz.prog 105 #[.slice (some ⟨g, 0, none⟩) xs.length c, .int .i64 x] w fun e w' => e = .returned (.bool (xs.contains x)) ∧ w' = w := by
  have := Any.slices_Contains_int Tryz.lays107 g 0 xs.length c xs x w (Nat.le_refl _) (by omega) (fun j hj => by
    rw [Nat.zero_add, (h.at_ hj).1]; rfl)
  rwa [List.take_length] at this
end Go.Proofs.YtepacoacalhdcaaGreat

namespace Go.Proofs.YtepacoacalhdcaaGreat
open Go.RowKit
set_option linter.unusedVariables false
set_option linter.unusedSimpArgs false

theorem cell_one_new' {w : World} {ad : Addr} {y : Value} (hy : w.cell? ad = some y) : ∀ j u, [y][j]? = some u → w.cell? (ad.add j) = some u := by
  intro j u h
  match j, h with
  | 0, h =>
    have e : ad.add 0 = ad := by
      obtain ⟨b, o, s⟩ := ad
      unfold Addr.add
      split <;> simp_all
    rw [e, hy]
    simpa using h
  | j + 1, h => simp at h

section

variable {P : Program}

theorem app_fresh {w : World} {B : Nat} {t ty e : TypeId} {i : TypeInfo} {z v : Value} {n : Nat} {xs : List Value} (ht : P.underlying t = some (.slice e)) (hi : P.info? e = some i) (hz : i.zero = some z) (hsize : i.size = 1) (hby : i.bytes = 8)
    (hown : w.ownsRow B e 1 v n xs) {ad : Addr} {c : Nat} {y : Value} (hy : w.cell? ad = some y) (h1 : y.oneCell' = true) (hn : n ≤ 1000000) {v' : Value} {w' : World}
    (hr : (Builtin.append_ #[t, t] ty #[v, .slice (some ad) 1 c]).run P w = .ok v' w') : v'.ownBlock = v.ownBlock ∨ v'.ownBlock = some w.heap.size := by
  have hnews : ∀ j u, [y][j]? = some u → w.cell? (ad.add j) = some u := cell_one_new' hy
  rcases hown.2 with ⟨rfl, rfl⟩ | ⟨g, cap, cur, rfl, hB, hg, hc, hm, hs, htk⟩
  · have := run_append_nil (P := P) w t ty e i z ht hi hz ad 1 c [y] (by rw [hsize]; rfl) hnews (by omega) (by omega) (by rw [hby]; omega)
    rw [hr] at this
    injection this with e1 _
    subst e1
    exact .inr rfl
  · by_cases hroom : n + 1 ≤ cap
    · have := run_append_room (P := P) w t ty e i ht hi g n cap cur hg ad 1 c [y] (by rw [hsize]; rfl) hnews (by simpa using h1) hroom (by rw [hsize]; simp; omega)
      rw [hr] at this
      injection this with e1 _
      subst e1
      exact .inl rfl
    · have := run_append_grow (P := P) w t ty e i z ht hi hz ⟨g, 0, none⟩ n cap xs (by rw [hsize]; exact hown.1) (hown.cells (g := g) rfl) ad 1 c [y] (by rw [hsize]; rfl) hnews (by omega) (by omega)
        (growslice_fits (by omega) (by rw [hby]; omega))
      rw [hr] at this
      injection this with e1 _
      subst e1
      exact .inr rfl

theorem wpList_append_int {ops : Array Oper} {rest : List Oper} {o : Oper} {a : Act} {w : World} {Q : Exit → Act → World → Prop} (hgd : o.guard = none) (s x : Operand) (t : TypeId)
    (ho : o.op = .call { callee := .builtin .append, args := #[s, x], argTypes := #[t, t] }) {B : Nat} {e : TypeId} {i : TypeInfo} (ht : P.underlying t = some (.slice e)) (hi : P.info? e = some i) (hz : i.zero = some (.int .i64 0)) (hsize : i.size = 1) (hby : i.bytes = 8)
    {v : Value} {xs : List Int} (hown : w.ownsRow B e 1 v xs.length (xs.map fun x => .int .i64 x)) (hs : a.eval s = v) {ad : Addr} {c : Nat} {y : Int} (hx : a.eval x = .slice (some ad) 1 c) (hy : w.cell? ad = some (.int .i64 y)) (hn : xs.length ≤ 1000000) (hB : B ≤ w.heap.size)
    (h : ∀ v' w', w'.ownsRow B e 1 v' (xs ++ [y]).length ((xs ++ [y]).map fun x => .int .i64 x) → w.grownBy w' v.ownBlock → (v'.ownBlock = v.ownBlock ∨ v'.ownBlock = some w.heap.size) → wpList P ops Q rest (a.put o.dst v') w') :
    wpList P ops Q (o :: rest) a w := by
  obtain ⟨v', w', hr, h2, h3, _⟩ := run_append_own (P := P) w B t o.type e i _ 1 8 ht hi hz hsize hby rfl (by decide) v xs.length _ hown ad 1 c [.int .i64 y] rfl (cell_one_new' hy) (by simp [Value.oneCell']) (by unfold maxLen; omega) (by omega) hB
  have hf := app_fresh ht hi hz hsize hby hown hy rfl hn hr
  refine wpList_plain hgd fun _ hK => ?_
  unfold Oper.wp execOp
  simp only [ho, resolve, invoke, builtin, Sem.run_bind, Sem.run_pure, Result.andThen_ok, List.map_toArray, List.map_cons, List.map_nil, hs, hx, hr]
  exact hK _ _ (h v' w' (by rw [List.length_append, List.map_append]; exact h2) h3 hf)

end
end Go.Proofs.YtepacoacalhdcaaGreat

namespace Go.Proofs.YtepacoacalhdcaaGreat
open Go.RowKit
set_option linter.unusedVariables false
set_option linter.unusedSimpArgs false

def cmpI (ns ls : List Nd) (k : Nat) (x y : Int) : Int := if ltD ns ls k x y = true then -1 else if ltD ns ls k y x = true then 1 else 0

theorem cmpI_lt (ns ls : List Nd) (k : Nat) (x y : Int) : decide (cmpI ns ls k x y < 0) = ltD ns ls k x y := by
  unfold cmpI
  cases ltD ns ls k x y <;> cases ltD ns ls k y x <;> rfl

/-- What the comparison keeps in view: the drawing, the order, the node. -/
def capFs (bd bf bk : Nat) (vn vl vf : Value) (k : Nat) : List (Nat × Nat × Value) := [(bd, 0, vn), (bd, 1, vl), (bf, 0, vf), (bk, 0, .int .i64 k)]

set_option maxRecDepth 100000 in
set_option maxHeartbeats 4000000 in
theorem cmpAro (ns ls : List Nd) (vn vl : Value) (k : Nat) (bd bf bk : Nat) (x y : Int) (w0 w : World) (hn : Prs w0 vn ns) (hl : Prs w0 vl ls) (hw : winB ns ls = true) (hk : k < ns.length)
    (hH : Held w0 w (capFs bd bf bk vn vl (.func (.func 224) #[] #[]) k)) (hx : ∃ d : Nat, x = d ∧ d < 2 * ls.length) (hy : ∃ d : Nat, y = d ∧ d < 2 * ls.length) :
    Calls Tryz.prog 234 #[.int .i64 x, .int .i64 y, .pointer (some ⟨bd, 0, none⟩), .pointer (some ⟨bf, 0, none⟩), .pointer (some ⟨bk, 0, none⟩)] w (IntIs (cmpI ns ls k x y) w) := by
  have HN := Lib.hid hn
  have HL := Lib.hid hl
  have h20 := ((winB_iff ns ls).1 hw).1.2
  obtain ⟨A, c, rfl⟩ := prs_form2 hn
  obtain ⟨A2, c2, rfl⟩ := prs_form2 hl
  clear hn hl
  obtain ⟨dx, rfl, hdx⟩ := hx
  obtain ⟨dy, rfl, hdy⟩ := hy
  obtain ⟨ax, bx, hfx, htx, _, hbx, _⟩ := dart_nat hw hdx
  obtain ⟨ay, by', hfy, hty, _, hby, _⟩ := dart_nat hw hdy
  have HX := Lib.hid (fun w hv => hfx ▸ htx ▸ dEnds ls (.slice A ns.length c) (.slice A2 ls.length c2) dx w hv hdx h20)
  have HY := Lib.hid (fun w hv => hfy ▸ hty ▸ dEnds ls (.slice A ns.length c) (.slice A2 ls.length c2) dy w hv hdy h20)
  unfold TwoIs at HX HY
  have hr : cmpI ns ls k (dx : Int) (dy : Int) = if beforeB (atN ns k) (atN ns bx) (atN ns by') = true then -1 else if beforeB (atN ns k) (atN ns by') (atN ns bx) = true then 1 else 0 := by
    unfold cmpI ltD
    rw [Int.toNat_natCast, Int.toNat_natCast, htx, hty]; rfl
  unfold capFs at hH
  have H0 := Lib.hid hH
  have HB0 := Lib.hid hH.below; clear hH
  obtain ⟨b1, o1, c3, he, hbl1, hcs1⟩ := prs_at2 (HN.out.step HB0.out) hk
  injection he with he1 he2 he3
  subst he1
  clear he2 he3
  have H1 := Lib.hid (aro_cells H0.out hcs1 hbl1 hk hbx hby)
  unfold P1 at H1
  simp only [List.cons_append, List.nil_append] at H1
  have HB1 := Lib.hid (implBefore (atN ns k) (atN ns bx) (atN ns by'))
  have HB2 := Lib.hid (implBefore (atN ns k) (atN ns by') (atN ns bx))
  unfold Nd.val at HB1 HB2
  generalize beforeB (atN ns k) (atN ns bx) (atN ns by') = r1 at *
  generalize beforeB (atN ns k) (atN ns by') (atN ns bx) = r2 at *
  generalize atN ns k = n1 at *
  generalize atN ns bx = n2 at *
  generalize atN ns by' = n3 at *
  obtain ⟨kx, ky⟩ := n1
  obtain ⟨xx, xy⟩ := n2
  obtain ⟨yx, yy⟩ := n3
  simp only at H1 HB1 HB2
  have HR := Lib.hid hr
  clear hr hcs1 H0 HB0 hfx htx hfy hty hw
  generalize cmpI ns ls k (dx : Int) (dy : Int) = r at *
  have p5 : (0 : Int) ≤ k := by omega
  have p6 : (k : Int) < (ns.length : Int) := by omega
  have p7 : (0 : Int) ≤ bx := by omega
  have p8 : (bx : Int) < (ns.length : Int) := by omega
  have p9 : (0 : Int) ≤ by' := by omega
  have p10 : (by' : Int) < (ns.length : Int) := by omega
  have H2 := Lib.hid (Held.start H1.out.1 H1.out.2.1)
  have HL2 := Lib.hid (HL.out.step H1.out.below)
  clear H1 HN HL
  obtain ⟨x0, x1, x2, x3, x4, x5, x6, x7, x8, x9, _⟩ := H2.out.1
  cases r1
  · cases r2
    · go_enter Tryz.func234, Tryz.ntmps234
      go_wp2_with fail
      refine (HX.out _ HL2.out).mono ?_
      rintro e wH3 ⟨rfl, hb⟩
      have H3 := Lib.hid ((H2.out).step hb); clear hb
      try clear x0 x1 x2 x3 x4 x5 x6 x7 x8 x9
      obtain ⟨x0, x1, x2, x3, x4, x5, x6, x7, x8, x9, _⟩ := H3.out.1
      go_wp2_with fail
      refine (HY.out _ (HL2.out.step H3.out.below)).mono ?_
      rintro e wH4 ⟨rfl, hb⟩
      have H4 := Lib.hid ((H3.out).step hb); clear hb
      try clear x0 x1 x2 x3 x4 x5 x6 x7 x8 x9
      obtain ⟨x0, x1, x2, x3, x4, x5, x6, x7, x8, x9, _⟩ := H4.out.1
      go_wp2_with fail
      refine regionD (S := fun W => Held _ W [(bd, 0, .slice (some ⟨b1, o1, none⟩) ns.length c), (bd, 1, .slice A2 ls.length c2), (bf, 0, .func (.func 224) #[] #[]), (bk, 0, .int .i64 (k)), (b1, o1 + k * 2, .int .i64 (kx)), (b1, o1 + k * 2 + 1, .int .i64 (ky)), (b1, o1 + bx * 2, .int .i64 (xx)), (b1, o1 + bx * 2 + 1, .int .i64 (xy)), (b1, o1 + by' * 2, .int .i64 (yx)), (b1, o1 + by' * 2 + 1, .int .i64 (yy))]) (by kernel_rfl) H4.out.drew ?_
      iterate 18 (refine takeT (v := ?_) rfl (by kernel_rfl) (by kernel_rfl) (by kernel_rfl) ?_ ?_; rotate_left; (first | (refine Or.inr ⟨by rfl, ?_⟩; with_reducible rfl) | (refine Or.inl ⟨by rfl, fun W hS => detRes_value (w' := W) ?_ hS⟩; obtain ⟨x0, x1, x2, x3, x4, x5, x6, x7, x8, x9, _⟩ := hS.1; go_simp; first | done | with_reducible rfl) | (refine Or.inl ⟨by rfl, fun W hS => ?_⟩; refine detRes_call (w' := W) (f := ?_) (args := ?_) ?_ ?_; rotate_left 2; (go_simp; (refine ⟨?_, ?_⟩ <;> with_reducible rfl)); (first | (with_reducible refine (HB1.out _).mono ?_) | fail); (first | (rintro e wn ⟨rfl, hb⟩; refine ⟨?_, hS.step hb⟩; with_reducible rfl) | (rintro e wn ⟨rfl, rfl⟩; refine ⟨?_, hS⟩; with_reducible rfl) | fail)) | fail); (simp only [Act.put, List.setIfInBounds_toArray, List.set_cons_zero, List.set_cons_succ]))
      refine doneD (by kernel_rfl) fun wH5 HS => ?_
      have H5 := Lib.hid HS; clear HS
      try clear x0 x1 x2 x3 x4 x5 x6 x7 x8 x9
      obtain ⟨x0, x1, x2, x3, x4, x5, x6, x7, x8, x9, _⟩ := H5.out.1
      go_wp2_with fail
      refine regionD (S := fun W => Held _ W [(bd, 0, .slice (some ⟨b1, o1, none⟩) ns.length c), (bd, 1, .slice A2 ls.length c2), (bf, 0, .func (.func 224) #[] #[]), (bk, 0, .int .i64 (k)), (b1, o1 + k * 2, .int .i64 (kx)), (b1, o1 + k * 2 + 1, .int .i64 (ky)), (b1, o1 + bx * 2, .int .i64 (xx)), (b1, o1 + bx * 2 + 1, .int .i64 (xy)), (b1, o1 + by' * 2, .int .i64 (yx)), (b1, o1 + by' * 2 + 1, .int .i64 (yy))]) (by kernel_rfl) H5.out.drew ?_
      iterate 18 (refine takeT (v := ?_) rfl (by kernel_rfl) (by kernel_rfl) (by kernel_rfl) ?_ ?_; rotate_left; (first | (refine Or.inr ⟨by rfl, ?_⟩; with_reducible rfl) | (refine Or.inl ⟨by rfl, fun W hS => detRes_value (w' := W) ?_ hS⟩; obtain ⟨x0, x1, x2, x3, x4, x5, x6, x7, x8, x9, _⟩ := hS.1; go_simp; first | done | with_reducible rfl) | (refine Or.inl ⟨by rfl, fun W hS => ?_⟩; refine detRes_call (w' := W) (f := ?_) (args := ?_) ?_ ?_; rotate_left 2; (go_simp; (refine ⟨?_, ?_⟩ <;> with_reducible rfl)); (first | (with_reducible refine (HB2.out _).mono ?_) | fail); (first | (rintro e wn ⟨rfl, hb⟩; refine ⟨?_, hS.step hb⟩; with_reducible rfl) | (rintro e wn ⟨rfl, rfl⟩; refine ⟨?_, hS⟩; with_reducible rfl) | fail)) | fail); (simp only [Act.put, List.setIfInBounds_toArray, List.set_cons_zero, List.set_cons_succ]))
      refine doneD (by kernel_rfl) fun wH6 HS => ?_
      have H6 := Lib.hid HS; clear HS
      try clear x0 x1 x2 x3 x4 x5 x6 x7 x8 x9
      obtain ⟨x0, x1, x2, x3, x4, x5, x6, x7, x8, x9, _⟩ := H6.out.1
      go_wp2_with fail
      go_ret
      exact ⟨ret_int (by rw [HR.out]; rfl), H6.out.below⟩
    · go_enter Tryz.func234, Tryz.ntmps234
      go_wp2_with fail
      refine (HX.out _ HL2.out).mono ?_
      rintro e wH3 ⟨rfl, hb⟩
      have H3 := Lib.hid ((H2.out).step hb); clear hb
      try clear x0 x1 x2 x3 x4 x5 x6 x7 x8 x9
      obtain ⟨x0, x1, x2, x3, x4, x5, x6, x7, x8, x9, _⟩ := H3.out.1
      go_wp2_with fail
      refine (HY.out _ (HL2.out.step H3.out.below)).mono ?_
      rintro e wH4 ⟨rfl, hb⟩
      have H4 := Lib.hid ((H3.out).step hb); clear hb
      try clear x0 x1 x2 x3 x4 x5 x6 x7 x8 x9
      obtain ⟨x0, x1, x2, x3, x4, x5, x6, x7, x8, x9, _⟩ := H4.out.1
      go_wp2_with fail
      refine regionD (S := fun W => Held _ W [(bd, 0, .slice (some ⟨b1, o1, none⟩) ns.length c), (bd, 1, .slice A2 ls.length c2), (bf, 0, .func (.func 224) #[] #[]), (bk, 0, .int .i64 (k)), (b1, o1 + k * 2, .int .i64 (kx)), (b1, o1 + k * 2 + 1, .int .i64 (ky)), (b1, o1 + bx * 2, .int .i64 (xx)), (b1, o1 + bx * 2 + 1, .int .i64 (xy)), (b1, o1 + by' * 2, .int .i64 (yx)), (b1, o1 + by' * 2 + 1, .int .i64 (yy))]) (by kernel_rfl) H4.out.drew ?_
      iterate 18 (refine takeT (v := ?_) rfl (by kernel_rfl) (by kernel_rfl) (by kernel_rfl) ?_ ?_; rotate_left; (first | (refine Or.inr ⟨by rfl, ?_⟩; with_reducible rfl) | (refine Or.inl ⟨by rfl, fun W hS => detRes_value (w' := W) ?_ hS⟩; obtain ⟨x0, x1, x2, x3, x4, x5, x6, x7, x8, x9, _⟩ := hS.1; go_simp; first | done | with_reducible rfl) | (refine Or.inl ⟨by rfl, fun W hS => ?_⟩; refine detRes_call (w' := W) (f := ?_) (args := ?_) ?_ ?_; rotate_left 2; (go_simp; (refine ⟨?_, ?_⟩ <;> with_reducible rfl)); (first | (with_reducible refine (HB1.out _).mono ?_) | fail); (first | (rintro e wn ⟨rfl, hb⟩; refine ⟨?_, hS.step hb⟩; with_reducible rfl) | (rintro e wn ⟨rfl, rfl⟩; refine ⟨?_, hS⟩; with_reducible rfl) | fail)) | fail); (simp only [Act.put, List.setIfInBounds_toArray, List.set_cons_zero, List.set_cons_succ]))
      refine doneD (by kernel_rfl) fun wH5 HS => ?_
      have H5 := Lib.hid HS; clear HS
      try clear x0 x1 x2 x3 x4 x5 x6 x7 x8 x9
      obtain ⟨x0, x1, x2, x3, x4, x5, x6, x7, x8, x9, _⟩ := H5.out.1
      go_wp2_with fail
      refine regionD (S := fun W => Held _ W [(bd, 0, .slice (some ⟨b1, o1, none⟩) ns.length c), (bd, 1, .slice A2 ls.length c2), (bf, 0, .func (.func 224) #[] #[]), (bk, 0, .int .i64 (k)), (b1, o1 + k * 2, .int .i64 (kx)), (b1, o1 + k * 2 + 1, .int .i64 (ky)), (b1, o1 + bx * 2, .int .i64 (xx)), (b1, o1 + bx * 2 + 1, .int .i64 (xy)), (b1, o1 + by' * 2, .int .i64 (yx)), (b1, o1 + by' * 2 + 1, .int .i64 (yy))]) (by kernel_rfl) H5.out.drew ?_
      iterate 18 (refine takeT (v := ?_) rfl (by kernel_rfl) (by kernel_rfl) (by kernel_rfl) ?_ ?_; rotate_left; (first | (refine Or.inr ⟨by rfl, ?_⟩; with_reducible rfl) | (refine Or.inl ⟨by rfl, fun W hS => detRes_value (w' := W) ?_ hS⟩; obtain ⟨x0, x1, x2, x3, x4, x5, x6, x7, x8, x9, _⟩ := hS.1; go_simp; first | done | with_reducible rfl) | (refine Or.inl ⟨by rfl, fun W hS => ?_⟩; refine detRes_call (w' := W) (f := ?_) (args := ?_) ?_ ?_; rotate_left 2; (go_simp; (refine ⟨?_, ?_⟩ <;> with_reducible rfl)); (first | (with_reducible refine (HB2.out _).mono ?_) | fail); (first | (rintro e wn ⟨rfl, hb⟩; refine ⟨?_, hS.step hb⟩; with_reducible rfl) | (rintro e wn ⟨rfl, rfl⟩; refine ⟨?_, hS⟩; with_reducible rfl) | fail)) | fail); (simp only [Act.put, List.setIfInBounds_toArray, List.set_cons_zero, List.set_cons_succ]))
      refine doneD (by kernel_rfl) fun wH6 HS => ?_
      have H6 := Lib.hid HS; clear HS
      try clear x0 x1 x2 x3 x4 x5 x6 x7 x8 x9
      obtain ⟨x0, x1, x2, x3, x4, x5, x6, x7, x8, x9, _⟩ := H6.out.1
      go_wp2_with fail
      go_ret
      exact ⟨ret_int (by rw [HR.out]; rfl), H6.out.below⟩
  · go_enter Tryz.func234, Tryz.ntmps234
    go_wp2_with fail
    refine (HX.out _ HL2.out).mono ?_
    rintro e wH3 ⟨rfl, hb⟩
    have H3 := Lib.hid ((H2.out).step hb); clear hb
    try clear x0 x1 x2 x3 x4 x5 x6 x7 x8 x9
    obtain ⟨x0, x1, x2, x3, x4, x5, x6, x7, x8, x9, _⟩ := H3.out.1
    go_wp2_with fail
    refine (HY.out _ (HL2.out.step H3.out.below)).mono ?_
    rintro e wH4 ⟨rfl, hb⟩
    have H4 := Lib.hid ((H3.out).step hb); clear hb
    try clear x0 x1 x2 x3 x4 x5 x6 x7 x8 x9
    obtain ⟨x0, x1, x2, x3, x4, x5, x6, x7, x8, x9, _⟩ := H4.out.1
    go_wp2_with fail
    refine regionD (S := fun W => Held _ W [(bd, 0, .slice (some ⟨b1, o1, none⟩) ns.length c), (bd, 1, .slice A2 ls.length c2), (bf, 0, .func (.func 224) #[] #[]), (bk, 0, .int .i64 (k)), (b1, o1 + k * 2, .int .i64 (kx)), (b1, o1 + k * 2 + 1, .int .i64 (ky)), (b1, o1 + bx * 2, .int .i64 (xx)), (b1, o1 + bx * 2 + 1, .int .i64 (xy)), (b1, o1 + by' * 2, .int .i64 (yx)), (b1, o1 + by' * 2 + 1, .int .i64 (yy))]) (by kernel_rfl) H4.out.drew ?_
    iterate 18 (refine takeT (v := ?_) rfl (by kernel_rfl) (by kernel_rfl) (by kernel_rfl) ?_ ?_; rotate_left; (first | (refine Or.inr ⟨by rfl, ?_⟩; with_reducible rfl) | (refine Or.inl ⟨by rfl, fun W hS => detRes_value (w' := W) ?_ hS⟩; obtain ⟨x0, x1, x2, x3, x4, x5, x6, x7, x8, x9, _⟩ := hS.1; go_simp; first | done | with_reducible rfl) | (refine Or.inl ⟨by rfl, fun W hS => ?_⟩; refine detRes_call (w' := W) (f := ?_) (args := ?_) ?_ ?_; rotate_left 2; (go_simp; (refine ⟨?_, ?_⟩ <;> with_reducible rfl)); (first | (with_reducible refine (HB1.out _).mono ?_) | fail); (first | (rintro e wn ⟨rfl, hb⟩; refine ⟨?_, hS.step hb⟩; with_reducible rfl) | (rintro e wn ⟨rfl, rfl⟩; refine ⟨?_, hS⟩; with_reducible rfl) | fail)) | fail); (simp only [Act.put, List.setIfInBounds_toArray, List.set_cons_zero, List.set_cons_succ]))
    refine doneD (by kernel_rfl) fun wH5 HS => ?_
    have H5 := Lib.hid HS; clear HS
    try clear x0 x1 x2 x3 x4 x5 x6 x7 x8 x9
    obtain ⟨x0, x1, x2, x3, x4, x5, x6, x7, x8, x9, _⟩ := H5.out.1
    go_wp2_with fail
    go_ret
    exact ⟨ret_int (by rw [HR.out]; rfl), H5.out.below⟩

set_option maxRecDepth 100000 in
theorem pdqSmall {w0 : World} {B g cp : Nat} {fs : List (Nat × Nat × Value)} (p2 p3 p4 : Value) (c : Int → Int → Int) (xs : List Int) (lim : Int) (w : World) (hB : w0.heap.size ≤ B) (hfs : Bs B fs) (hH : Held w0 w fs)
    (hI : Ints w B (.slice (some ⟨g, 0, none⟩) xs.length cp) xs) (h12 : xs.length ≤ 12)
    (hC : ∀ W x y, x ∈ xs → y ∈ xs → Held w0 W fs → Calls Tryz.prog 234 #[.int .i64 x, .int .i64 y, p2, p3, p4] W (IntIs (c x y) W)) :
    Calls Tryz.prog 239 #[.slice (some ⟨g, 0, none⟩) xs.length cp, .int .i64 0, .int .i64 xs.length, .int .i64 lim, .func (.func 234) #[] #[p2, p3, p4]] w
      fun e w' => e = .returned (.tuple #[]) ∧ Ints w' B (.slice (some ⟨g, 0, none⟩) xs.length cp) (sortL (fun x y => decide (c x y < 0)) xs) ∧ Held w0 w' fs := by
  have HS := Lib.hid (insSort p2 p3 p4 c xs w hB hfs hH hI (by omega) hC)
  have hz : (xs.length : Int) ≤ 12 := by omega
  clear hH hI hC hfs
  go_enter Tryz.func239, Tryz.ntmps239
  go_wp2
  refine wp_loop_rounds 1 ?_
  rw [rounds_succ]
  go_wp2_with fail
  refine HS.out.mono ?_
  rintro e w' ⟨rfl, h1, h2⟩
  go_wp2_with fail
  (try simp only [Exit.inBlock, Exit.then]); refine bodyPost_ret (results_none rfl _ _ _) rfl ?_
  exact ⟨rfl, h1, h2⟩

set_option maxRecDepth 100000 in
theorem sortFunc {w0 : World} {B g cp : Nat} {fs : List (Nat × Nat × Value)} (p2 p3 p4 : Value) (c : Int → Int → Int) (xs : List Int) (w : World) (hB : w0.heap.size ≤ B) (hfs : Bs B fs) (hH : Held w0 w fs)
    (hI : Ints w B (.slice (some ⟨g, 0, none⟩) xs.length cp) xs) (h12 : xs.length ≤ 12)
    (hC : ∀ W x y, x ∈ xs → y ∈ xs → Held w0 W fs → Calls Tryz.prog 234 #[.int .i64 x, .int .i64 y, p2, p3, p4] W (IntIs (c x y) W)) :
    Calls Tryz.prog 233 #[.slice (some ⟨g, 0, none⟩) xs.length cp, .func (.func 234) #[] #[p2, p3, p4]] w
      fun e w' => e = .returned (.tuple #[]) ∧ Ints w' B (.slice (some ⟨g, 0, none⟩) xs.length cp) (sortL (fun x y => decide (c x y < 0)) xs) ∧ Held w0 w' fs := by
  have HS := Lib.hid (fun lim => pdqSmall p2 p3 p4 c xs lim w hB hfs hH hI h12 hC)
  have HL : Hid (Calls Tryz.prog 130 #[.int .u64 (xs.length : Int)] w fun e w' => e = .returned (.int .i64 ((Lib.bitLen (xs.length : Int).toNat : Nat) : Int)) ∧ w' = w) := Lib.hid (Any.bits_Len Tryz.lays125 (xs.length : Int) w (by omega) (by omega))
  have hz : (xs.length : Int) ≤ 12 := by omega
  have hz0 : 0 ≤ (xs.length : Int) := by omega
  clear hH hI hC hfs
  go_enter Tryz.func233, Tryz.ntmps233
  go_wp2_with fail
  refine HL.out.mono ?_
  rintro e w' ⟨rfl, rfl⟩
  go_wp2_with fail
  refine (HS.out _).mono ?_
  rintro e w2 ⟨rfl, h1, h2⟩
  go_wp2_with fail
  go_end0
  exact ⟨rfl, h1, h2⟩

end Go.Proofs.YtepacoacalhdcaaGreat

namespace Go.Proofs.YtepacoacalhdcaaGreat
open Go.RowKit
set_option linter.unusedVariables false
set_option linter.unusedSimpArgs false

theorem aro_sort (ns ls : List Nd) (k : Nat) : ∀ n, aroL ns ls k n = sortL (ltD ns ls k) (fromL ls k n)
  | 0 => rfl
  | n + 1 => by
    have ih := aro_sort ns ls k n
    have e : fromL ls k (n + 1) = if decide (dF ls n = k) = true then fromL ls k n ++ [(n : Int)] else fromL ls k n := rfl
    rw [aroL, e, ih]
    by_cases h : dF ls n = k
    · rw [if_pos h, if_pos (decide_eq_true h), sortL_more]
    · rw [if_neg h, if_neg (by simpa using h)]

theorem cell_first (w : World) (x : Value) (T : TypeId) : (w.alloc (.cells #[x] T)).cell? ⟨w.heap.size, 0, none⟩ = some x := by rw [cell_of_cells (heap_alloc_new w _)]; rfl

theorem Ints.owned {w : World} {B k : Nat} {v : Value} {xs : List Int} (h : Ints w B v xs) (hk : v.ownBlock = some k) : ∃ c, v = .slice (some ⟨k, 0, none⟩) xs.length c := by
  rcases h.2 with ⟨rfl, _⟩ | ⟨g, cap, cur, rfl, _⟩
  · cases hk
  · have : g = k := by simpa [Value.ownBlock] using hk
    subst this
    exact ⟨cap, rfl⟩

theorem held_around (w : World) (vn vl vf : Value) (k : Int) (T U V : TypeId) : Held w (((w.alloc (.cells #[vn, vl] T)).alloc (.cells #[.int .i64 k] U)).alloc (.cells #[vf] V)) [(w.heap.size, 0, vn), (w.heap.size, 1, vl), (w.heap.size + 2, 0, vf), (w.heap.size + 1, 0, .int .i64 k)] :=
  ((((Held.none_ w).new2 w.heap.size rfl [vn, vl] T).new2 (w.heap.size + 1) (by simp) [.int .i64 k] U).new2 (w.heap.size + 2) (by simp) [vf] V).only (fun ⟨a, b, c, d, _⟩ => ⟨c, d, a, b, trivial⟩) (fun ⟨a, b, c, d, _⟩ => ⟨c, d, a, b, trivial⟩)

set_option maxRecDepth 100000 in
set_option maxHeartbeats 4000000 in
theorem implAround (ns ls : List Nd) (vn vl : Value) (k : Nat) (w : World) (hn : Prs w vn ns) (hl : Prs w vl ls) (hw : winB ns ls = true) (hk : k < ns.length) :
    Calls Tryz.prog 223 #[.agg #[vn, vl], .int .i64 k, .func (.func 224) #[] #[]] w (IntsNew (aroL ns ls k (2 * ls.length)) w) := by
  have HN := Lib.hid hn
  have HL := Lib.hid hl
  obtain ⟨A, c, rfl⟩ := prs_form2 hn
  obtain ⟨A2, c2, rfl⟩ := prs_form2 hl
  clear hn hl
  obtain ⟨i0, hi, hz0, hz1, hz2⟩ := info_parts infoInt
  have HI := Lib.hid (And.intro hi (And.intro hz0 (And.intro hz1 hz2))); clear hi hz0 hz1 hz2
  have h20 := ((winB_iff ns ls).1 hw).1.2
  have HD := Lib.hid (fun d => dart_nat (ns := ns) (ls := ls) (d := d) hw)
  have HE := Lib.hid (fun d w hv (hd : d < 2 * ls.length) => dEnds ls (.slice A ns.length c) (.slice A2 ls.length c2) d w hv hd h20)
  have HLE := Lib.hid (from_le hw k)
  have H0 := Lib.hid (held_around w (.slice A ns.length c) (.slice A2 ls.length c2) (.func (.func 224) #[] #[]) k 96 3 220)
  have HO0 := Lib.hid (Ints.made (((w.alloc (.cells #[.slice A ns.length c, .slice A2 ls.length c2] 96)).alloc (.cells #[.int .i64 k] 3)).alloc (.cells #[.func (.func 224) #[] #[]] 220)) (w.heap.size + 3) (w.heap.size + 3) (by simp) (Nat.le_refl _))
  have HCM := Lib.hid (fun W x y (hx : x ∈ fromL ls k (2 * ls.length)) (hy : y ∈ fromL ls k (2 * ls.length)) (h : Held w W (capFs w.heap.size (w.heap.size + 2) (w.heap.size + 1) (.slice A ns.length c) (.slice A2 ls.length c2) (.func (.func 224) #[] #[]) k)) =>
    cmpAro ns ls (.slice A ns.length c) (.slice A2 ls.length c2) k w.heap.size (w.heap.size + 2) (w.heap.size + 1) x y w W HN.out HL.out hw hk h (by obtain ⟨d, e, hd, _⟩ := from_mem.1 hx; exact ⟨d, e, hd⟩) (by obtain ⟨d, e, hd, _⟩ := from_mem.1 hy; exact ⟨d, e, hd⟩))
  have HSORT := Lib.hid (show sortL (fun x y => decide (cmpI ns ls k x y < 0)) (fromL ls k (2 * ls.length)) = aroL ns ls k (2 * ls.length) from by
    rw [aro_sort]
    congr 1
    funext x y
    exact cmpI_lt ns ls k x y)
  have HF := Lib.hid (fun n => (show fromL ls k (n + 1) = if decide (dF ls n = k) = true then fromL ls k n ++ [(n : Int)] else fromL ls k n from rfl))
  have HFL := Lib.hid (fun n => (show (fromL ls k n).length ≤ n from fltN_len _ n))
  have HF0 := Lib.hid (show fromL ls k 0 = [] from rfl)
  clear hw
  go_enter Tryz.func223, Tryz.ntmps223
  obtain ⟨x0, x1, x2, x3, _⟩ := H0.out.1
  go_wp2_with fail
  clear x0 x1 x2 x3
  go_loopw [7, 16] (fun v i wr => ∃ m : Nat, m ≤ 2 * ls.length ∧ i = .int .i64 m ∧ (∃ q, v.ownBlock = some q) ∧ Ints wr (w.heap.size + 3) v (fromL ls k m) ∧ Held w wr [(w.heap.size, 0, .slice A ns.length c), (w.heap.size, 1, .slice A2 ls.length c2), (w.heap.size + 2, 0, .func (.func 224) #[] #[]), (w.heap.size + 1, 0, .int .i64 k)]) (fun _ i _ => 2 * ls.length - (intOf i).toNat)
  case atStart => exact ⟨0, Nat.zero_le _, rfl, ⟨_, rfl⟩, by rw [HF0.out]; exact HO0.out, H0.out.alloc _⟩
  case round =>
    clear H0 HO0
    obtain ⟨m, hm, rfl, ⟨q0, hq0⟩, hown, hh⟩ := hrel
    have HOWN := Lib.hid hown; clear hown
    have H1 := Lib.hid hh; clear hh
    obtain ⟨cv, rfl⟩ := HOWN.out.owned hq0
    clear hq0
    by_cases hlt : m < 2 * ls.length
    · obtain ⟨a, b, hda, hdb, ha, hb, -⟩ := HD.out m hlt
      have HX := Lib.hid (fun w hv => HE.out m w hv hlt)
      rw [hda, hdb] at HX
      unfold TwoIs at HX
      have HS := Lib.hid (HF.out m)
      rw [hda] at HS
      have hfl := HFL.out m
      have hz1 : (m : Int) < 2 * (ls.length : Int) := by omega
      have hz2 : (0 : Int) ≤ m := by omega
      obtain ⟨x0, x1, x2, x3, _⟩ := H1.out.1
      go_wp2_with fail
      refine (HX.out _ (HL.out.step H1.out.below)).mono ?_
      rintro e w1 ⟨rfl, hb1⟩
      have HO1 := Lib.hid (HOWN.out.step hb1)
      have H3 := Lib.hid (H1.out.step hb1)
      clear hb1 x0 x1 x2 x3
      obtain ⟨x0, x1, x2, x3, _⟩ := H3.out.1
      by_cases hak : a = k
      · have gq : ((a : Int) == (k : Int)) = true := by simp [hak]
        have HQ := Lib.hid (show decide ((a : Int) = (k : Int)) = true from decide_eq_true (by omega)); clear hak
        have hsz : w.heap.size + 3 ≤ w1.heap.size := by have := (HO1.out.own q0 rfl); omega
        have hA : (fromL ls k m).length ≤ 1000000 := by omega
        have hBq : w.heap.size + 3 ≤ (w1.alloc (.cells #[.int .i64 (m : Int)] 3)).heap.size := by simp; omega
        obtain ⟨hi, hz0, hz1', hz2'⟩ := HI.out
        go_wp2_with (at_builtin; refine wpList_append_int rfl _ _ 27 rfl Tryz.underlying27 hi hz0 hz1' hz2' (World.ownsRow.alloc HO1.out _) rfl rfl (cell_first _ _ _) hA hBq ?_)
        intro v' w5 hown hgrow hfresh
        have HO5 := Lib.hid (Ints.more (xs := fromL ls k m) (x := (m : Int)) (by simpa using hown))
        have H4 := Lib.hid (H3.out.stepB (B := w.heap.size + 3) ⟨by omega, by omega, by omega, by omega, trivial⟩ (grown_below HO1.out hsz hgrow) (by omega))
        have hbl : ∃ q, v'.ownBlock = some q := by
          rcases hfresh with e | e
          · exact ⟨q0, e.trans rfl⟩
          · exact ⟨_, e⟩
        have HBL := Lib.hid hbl
        clear hown hgrow hfresh hbl x0 x1 x2 x3
        go_wp2_with fail
        exact ⟨⟨m + 1, by omega, by go_num, HBL.out, by rw [HS.out, if_pos HQ.out]; exact HO5.out, H4.out⟩, by simp [intOf]; omega⟩
      · have gq : ((a : Int) == (k : Int)) = false := by rw [beq_eq_false_iff_ne]; omega
        have HQ := Lib.hid (show ¬ decide ((a : Int) = (k : Int)) = true from fun h => hak (by have := of_decide_eq_true h; omega)); clear hak
        go_wp2_with fail
        exact ⟨⟨m + 1, by omega, by go_num, ⟨_, rfl⟩, by rw [HS.out, if_neg HQ.out]; exact HO1.out, H3.out⟩, by simp [intOf]; omega⟩
    · obtain rfl : m = 2 * ls.length := by omega
      have HSO := Lib.hid (sortFunc (w0 := w) (B := w.heap.size + 3) (g := q0) (cp := cv) (fs := capFs w.heap.size (w.heap.size + 2) (w.heap.size + 1) (.slice A ns.length c) (.slice A2 ls.length c2) (.func (.func 224) #[] #[]) k) (.pointer (some ⟨w.heap.size, 0, none⟩)) (.pointer (some ⟨w.heap.size + 2, 0, none⟩)) (.pointer (some ⟨w.heap.size + 1, 0, none⟩)) (cmpI ns ls k) (fromL ls k (2 * ls.length)) wr (by omega) ⟨by omega, by omega, by omega, by omega, trivial⟩ H1.out HOWN.out HLE.out HCM.out)
      go_wp2_with fail
      refine HSO.out.mono ?_
      rintro e w2 ⟨rfl, h1, h2⟩
      rw [HSORT.out] at h1
      have hll : (aroL ns ls k (2 * ls.length)).length = (fromL ls k (2 * ls.length)).length := by rw [← HSORT.out]; exact sortL_len _ _ _ rfl
      have HO2 := Lib.hid h1
      have HB2 := Lib.hid h2.below
      clear h1 h2
      go_wp2_with fail
      go_ret
      exact ⟨_, rfl, HO2.out.mono (by omega), HB2.out⟩
end Go.Proofs.YtepacoacalhdcaaGreat

namespace Go.Proofs.YtepacoacalhdcaaGreat
open Go.RowKit
set_option linter.unusedVariables false
set_option linter.unusedSimpArgs false

def aroI (ns ls : List Nd) (k : Int) : List Int := if hasB ns ls k = true then aroL ns ls k.toNat (2 * ls.length) else []

theorem hasB_natF {ns ls : List Nd} {k : Int} (hh : hasB ns ls k = true) : ∃ q : Nat, k = q ∧ q < ns.length ∧ winB ns ls = true := by
  unfold hasB at hh
  simp only [Bool.and_eq_true] at hh
  have h2 := (idxB_iff _ _).1 hh.2
  exact ⟨k.toNat, by omega, by omega, hh.1⟩

theorem aro_len {ns ls : List Nd} (hw : winB ns ls = true) (k : Nat) : (aroL ns ls k (2 * ls.length)).length = (fromL ls k (2 * ls.length)).length := by
  rw [aro_sort]; exact sortL_len _ _ _ rfl

theorem aroI_len (ns ls : List Nd) (k : Int) : (aroI ns ls k).length ≤ 20 := by
  unfold aroI
  split
  · rename_i h
    obtain ⟨q, rfl, hq, hw⟩ := hasB_natF h
    have := from_le hw ((q : Int)).toNat
    rw [aro_len hw]; omega
  · simp

end Go.Proofs.YtepacoacalhdcaaGreat

namespace Go.Proofs.YtepacoacalhdcaaGreat
open Go.RowKit
set_option linter.unusedVariables false
set_option linter.unusedSimpArgs false

theorem insM_has (lt : Int → Int → Bool) (d : Int) (l : List Int) : ∀ m x, (x = d ∨ x ∈ l) → x ∈ insM lt d l m
  | 0, x, h => by simpa [insM] using h
  | m + 1, x, h => by
    unfold insM
    split
    · exact insM_has lt d l m x h
    · simp only [List.mem_append, List.mem_cons]
      rcases h with h | h
      · exact .inr (.inl h)
      · rw [← List.take_append_drop (m + 1) l, List.mem_append] at h
        rcases h with h | h
        · exact .inl h
        · exact .inr (.inr h)

theorem sortL_has (lt : Int → Int → Bool) : ∀ (n : Nat) (xs : List Int), xs.length = n → ∀ x, x ∈ xs → x ∈ sortL lt xs
  | 0, xs, h, x, hx => by obtain rfl := List.eq_nil_of_length_eq_zero h; simp at hx
  | n + 1, xs, h, x, hx => by
    have e : xs = xs.take n ++ [atZ xs n] := by
      rw [← atZ_get (by omega), ← List.take_succ_eq_append_getElem (by omega), List.take_of_length_le (by omega)]
    rw [e, sortL_more]
    rw [e, List.mem_append] at hx
    rcases hx with hx | hx
    · exact insM_has _ _ _ _ _ (.inr (sortL_has lt n _ (by simp; omega) x hx))
    · exact insM_has _ _ _ _ _ (.inl (by simpa using hx))

theorem atZ_of_mem {l : List Int} {x : Int} (h : x ∈ l) : ∃ p, p < l.length ∧ atZ l p = x ∧ ∀ j, j < p → atZ l j ≠ x := by
  induction l with
  | nil => simp at h
  | cons a t ih =>
    by_cases e : a = x
    · exact ⟨0, by simp, e, fun j hj => absurd hj (Nat.not_lt_zero _)⟩
    · obtain ⟨p, hp, h1, h2⟩ := ih (by rcases List.mem_cons.1 h with h | h; · exact absurd h.symm e
                                       · exact h)
      refine ⟨p + 1, by simp; omega, h1, fun j hj => ?_⟩
      cases j with
      | zero => exact e
      | succ j => exact h2 j (by omega)

/-- The darts around the node where dart d begins; d's place there. -/
def roundL (ns ls : List Nd) (d : Nat) : List Int := aroL ns ls (dF ls d).toNat (2 * ls.length)

theorem round_place {ns ls : List Nd} {d : Nat} (hw : winB ns ls = true) (hd : d < 2 * ls.length) : ∃ p, p < (roundL ns ls d).length ∧ (roundL ns ls d).length ≤ 12 ∧ atZ (roundL ns ls d) p = d ∧ ∀ j, j < p → atZ (roundL ns ls d) j ≠ d := by
  obtain ⟨a, b, hda, _, _⟩ := dart_nat (ns := ns) hw hd
  have hm : (d : Int) ∈ roundL ns ls d := by
    unfold roundL
    rw [aro_sort]
    exact sortL_has _ _ _ rfl _ (from_mem.2 ⟨d, rfl, hd, by rw [hda]; simp⟩)
  obtain ⟨p, h1, h2, h3⟩ := atZ_of_mem hm
  refine ⟨p, h1, ?_, h2, h3⟩
  unfold roundL
  rw [aro_len hw]
  exact from_le hw _

def stepI (ns ls : List Nd) (s : Int) (d : Int) : Int :=
  if hasDB ns ls d = true then atZ (roundL ns ls d.toNat) (((Lib.idxOf (roundL ns ls d.toNat) d + s + (roundL ns ls d.toNat).length) % ((roundL ns ls d.toNat).length : Int)).toNat) else -1

theorem index_of {l : List Int} {p : Nat} {x : Int} (hp : p < l.length) (h : atZ l p = x) (hn : ∀ j, j < p → atZ l j ≠ x) : Lib.idxOf l x = p := by
  have := Lib.idxOf_hit l l.length p x hp (Nat.le_refl _) h hn
  rwa [List.take_length] at this

theorem indexI {w : World} {B g c : Nat} {xs : List Int} (x : Int) (h : Ints w B (.slice (some ⟨g, 0, none⟩) xs.length c) xs) (hlen : xs.length ≤ 1048576) :
    Calls Tryz.prog 156 #[.slice (some ⟨g, 0, none⟩) xs.length c, .int .i64 x] w fun e w' => e = .returned (.int .i64 (Lib.idxOf xs x)) ∧ w' = w := by
  have := Any.slices_Index_int (ρ := Tryz.lays107_ren) { Tryz.lays107 with } g 0 xs.length c xs x w (Nat.le_refl _) (by omega) (fun j hj => by
    rw [Nat.zero_add, (h.at_ hj).1]; rfl)
  rwa [List.take_length] at this

theorem step_rem (p n : Nat) (s : Int) (hp : p < n) (h : s = 1 ∨ s = -1) : ∃ q : Nat, ((p : Int) + s + n) % (n : Int) = q ∧ q < n ∧ 0 ≤ (p : Int) + s + n := by
  have h1 := Int.emod_nonneg ((p : Int) + s + n) (show (n : Int) ≠ 0 by omega)
  have h2 := Int.emod_lt_of_pos ((p : Int) + s + n) (show (0 : Int) < n by omega)
  exact ⟨(((p : Int) + s + n) % (n : Int)).toNat, by omega, by omega, by omega⟩

set_option maxRecDepth 100000 in
set_option maxHeartbeats 1000000 in
theorem implTurned (ns ls : List Nd) (vn vl : Value) (d : Nat) (s : Int) (w : World) (hn : Prs w vn ns) (hl : Prs w vl ls) (hw : winB ns ls = true) (hd : d < 2 * ls.length) (hs : s = 1 ∨ s = -1) :
    Calls Tryz.prog 209 #[.agg #[vn, vl], .int .i64 d, .int .i64 s] w (IntIs (stepI ns ls s d) w) := by
  have hh : hasDB ns ls d = true := by unfold hasDB; rw [hw, (idxB_iff _ _).2 (by omega)]; rfl
  have HN := Lib.hid hn
  have HL := Lib.hid hl
  obtain ⟨A, c, rfl⟩ := prs_form2 hn
  obtain ⟨A2, c2, rfl⟩ := prs_form2 hl
  clear hn hl
  have H0 := Lib.hid (held_pair w (.slice A ns.length c) (.slice A2 ls.length c2) 96)
  have h20 := ((winB_iff ns ls).1 hw).1.2
  obtain ⟨a, b, hda, hdb, ha, hb, -⟩ := dart_nat (ns := ns) hw hd
  have HE := Lib.hid (fun w hv => dEnds ls (.slice A ns.length c) (.slice A2 ls.length c2) d w hv hd h20)
  rw [hda, hdb] at HE
  unfold TwoIs at HE
  have HP := Lib.hid (fun w h1 h2 => implAround ns ls (.slice A ns.length c) (.slice A2 ls.length c2) a w h1 h2 hw ha)
  unfold IntsNew at HP
  obtain ⟨p, hp, h12, hat, hne⟩ := round_place (ns := ns) hw hd
  have hidx := index_of hp hat hne
  obtain ⟨q, hq1, hq2, hq3⟩ := step_rem p (roundL ns ls d).length s hp hs
  have HR := Lib.hid (show stepI ns ls s d = atZ (roundL ns ls d) q from by
    unfold stepI
    rw [if_pos hh]
    simp only [Int.toNat_natCast]
    rw [hidx, hq1]; rfl)
  have he : aroL ns ls a (2 * ls.length) = roundL ns ls d := by unfold roundL; rw [hda]; rfl
  rw [he] at HP
  clear he hat hne hh hw hda hdb
  generalize roundL ns ls d = l at *
  generalize stepI ns ls s (d : Int) = r at *
  have HIX := Lib.hid (fun g cc B W (h : Ints W B (.slice (some ⟨g, 0, none⟩) l.length cc) l) => indexI (d : Int) h (by omega))
  rw [hidx] at HIX
  clear hidx
  go_enter Tryz.func209, Tryz.ntmps209
  go_wp2_with fail
  refine (HE.out _ (HL.out.step H0.out.below)).mono ?_
  rintro e wH1 ⟨rfl, hb⟩
  have H1 := Lib.hid ((H0.out).step hb); clear hb
  try clear x0 x1
  obtain ⟨x0, x1, _⟩ := H1.out.1
  go_wp2_with fail
  refine (HP.out _ (HN.out.step H1.out.below) (HL.out.step H1.out.below)).mono ?_
  rintro e w2 ⟨v, rfl, hi, hb⟩
  obtain ⟨g, cc, rfl⟩ := hi.some_ (by omega)
  have HI := Lib.hid hi
  have H2 := Lib.hid (H1.out.step hb)
  obtain ⟨c0, -, hgl, -, -⟩ := hi.at_ (j := q) hq2
  clear hi hb x0 x1
  go_wp2_with fail
  refine (HIX.out _ _ _ _ HI.out).mono ?_
  rintro e w' ⟨rfl, rfl⟩
  have hq4 : (0 : Int) ≤ q := by omega
  have hq5 : (q : Int) < l.length := by omega
  have hp2 : (p : Int) < l.length := by omega
  rcases hs with rfl | rfl
  all_goals
    go_wp2_with fail
    go_ret
    exact ⟨ret_int (by rw [HR.out]), H2.out.below⟩

set_option maxRecDepth 100000 in
set_option maxHeartbeats 1000000 in
theorem specStep (ns ls : List Nd) (vn vl : Value) (d : Nat) (s : Int) (w : World) (hn : Prs w vn ns) (hl : Prs w vl ls) (hw : winB ns ls = true) (hd : d < 2 * ls.length) (hs : s = 1 ∨ s = -1) :
    Calls Tryz.prog 194 #[.agg #[vn, vl], .int .i64 d, .int .i64 s] w (IntIs (stepI ns ls s d) w) := by
  have hh : hasDB ns ls d = true := by unfold hasDB; rw [hw, (idxB_iff _ _).2 (by omega)]; rfl
  have HN := Lib.hid hn
  have HL := Lib.hid hl
  obtain ⟨A, c, rfl⟩ := prs_form2 hn
  obtain ⟨A2, c2, rfl⟩ := prs_form2 hl
  clear hn hl
  have H0 := Lib.hid (held_pair w (.slice A ns.length c) (.slice A2 ls.length c2) 32)
  have h20 := ((winB_iff ns ls).1 hw).1.2
  obtain ⟨a, b, hda, hdb, ha, hb, -⟩ := dart_nat (ns := ns) hw hd
  have HE := Lib.hid (fun w hv => sEnds ls (.slice A ns.length c) (.slice A2 ls.length c2) d w hv hd h20)
  rw [hda, hdb] at HE
  unfold TwoIs at HE
  have HP := Lib.hid (fun w h1 h2 => specAro ns ls (.slice A ns.length c) (.slice A2 ls.length c2) a w h1 h2 hw ha)
  unfold IntsNew at HP
  obtain ⟨p, hp, h12, hat, hne⟩ := round_place (ns := ns) hw hd
  have hidx := index_of hp hat hne
  obtain ⟨q, hq1, hq2, hq3⟩ := step_rem p (roundL ns ls d).length s hp hs
  have HR := Lib.hid (show stepI ns ls s d = atZ (roundL ns ls d) q from by
    unfold stepI
    rw [if_pos hh]
    simp only [Int.toNat_natCast]
    rw [hidx, hq1]; rfl)
  have he : aroL ns ls a (2 * ls.length) = roundL ns ls d := by unfold roundL; rw [hda]; rfl
  rw [he] at HP
  have HAT := Lib.hid hat
  have HNE := Lib.hid hne
  have HHS := Lib.hid hs
  have HQ1 := Lib.hid hq1
  have HQ3 := Lib.hid hq3
  clear he hat hne hh hw hda hdb hidx hs hq1 hq3
  generalize roundL ns ls d = l at *
  generalize stepI ns ls s (d : Int) = r at *
  go_enter Tryz.func194, Tryz.ntmps194
  go_wp2_with fail
  refine (HE.out _ (HL.out.step H0.out.below)).mono ?_
  rintro e wH1 ⟨rfl, hb⟩
  have H1 := Lib.hid ((H0.out).step hb); clear hb
  try clear x0 x1
  obtain ⟨x0, x1, _⟩ := H1.out.1
  go_wp2_with fail
  refine (HP.out _ (HN.out.step H1.out.below) (HL.out.step H1.out.below)).mono ?_
  rintro e w2 ⟨v, rfl, hi, hb⟩
  obtain ⟨g, cc, rfl⟩ := hi.some_ (by omega)
  have HI := Lib.hid hi
  have H2 := Lib.hid (H1.out.step hb)
  clear hi hb x0 x1
  go_wp2_with fail
  go_loopw [10] (fun i wr => ∃ m : Nat, m ≤ p ∧ i = .int .i64 m ∧ wr = w2) (fun i _ => p - (intOf i).toNat)
  case atStart => exact ⟨0, Nat.zero_le _, rfl, rfl⟩
  case round =>
    obtain ⟨m, hm, rfl, rfl⟩ := hrel
    obtain ⟨c0, -, hgl, -, -⟩ := HI.out.at_ (j := m) (by omega)
    have hz1 : (m : Int) < l.length := by omega
    have hz2 : (0 : Int) ≤ m := by omega
    by_cases hmp : m = p
    · subst hmp
      rw [HAT.out] at c0
      obtain ⟨c1, -, -, -, -⟩ := HI.out.at_ (j := q) hq2
      have hq4 : (0 : Int) ≤ q := by omega
      have hq5 : (q : Int) < l.length := by omega
      have hq1 := HQ1.out
      have hq3 := HQ3.out
      rcases HHS.out with rfl | rfl
      all_goals
        go_wp2_with fail
        go_ret
        exact ⟨ret_int (by rw [HR.out]), H2.out.below⟩
    · have hn := HNE.out m (by omega)
      have gq : (atZ l m == (d : Int)) = false := by rw [beq_eq_false_iff_ne]; exact hn
      clear hn
      generalize atZ l m = y at *
      go_wp2_with fail
      exact ⟨⟨m + 1, by omega, by go_num, trivial⟩, by simp [intOf]; omega⟩

end Go.Proofs.YtepacoacalhdcaaGreat

namespace Go.Proofs.YtepacoacalhdcaaGreat
open Go.RowKit
set_option linter.unusedVariables false
set_option linter.unusedSimpArgs false

/-- A list of different numbers below n has at most n of them. -/
theorem nodup_leN : ∀ (n : Nat) (l : List Nat), l.Nodup → (∀ x, x ∈ l → x < n) → l.length ≤ n
  | 0, l, _, h => by
    cases l with
    | nil => simp
    | cons a t => exact absurd (h a (by simp)) (by omega)
  | n + 1, l, hn, h => by
    by_cases hm : n ∈ l
    · have h1 := nodup_leN n (l.erase n) (hn.erase n) (fun x hx => by
        have h2 := h x (List.mem_of_mem_erase hx)
        have h3 : x ≠ n := fun e => by subst e; exact hn.not_mem_erase hx
        omega)
      have := List.length_erase_of_mem hm
      omega
    · have := nodup_leN n l hn (fun x hx => by
        have h2 := h x hx
        have h3 : x ≠ n := fun e => by subst e; exact hm hx
        omega)
      omega

theorem leastP {P : Nat → Prop} : ∀ n, P n → ∃ m, m ≤ n ∧ P m ∧ ∀ j, j < m → ¬ P j := by
  intro n
  induction n using Nat.strongRecOn with
  | ind n ih =>
    intro h
    by_cases hx : ∃ j, j < n ∧ P j
    · obtain ⟨j, hj, hp⟩ := hx
      obtain ⟨m, h1, h2, h3⟩ := ih j hj hp
      exact ⟨m, by omega, h2, h3⟩
    · exact ⟨n, Nat.le_refl _, h, fun j hj hp => hx ⟨j, hj, hp⟩⟩

/-- f, n times. -/
def itN (f : Nat → Nat) : Nat → Nat → Nat
  | 0, a => a
  | n + 1, a => f (itN f n a)

theorem itN_add (f : Nat → Nat) (m a : Nat) : ∀ n, itN f (n + m) a = itN f n (itN f m a)
  | 0 => by simp [itN]
  | n + 1 => by rw [Nat.add_right_comm]; simp [itN, itN_add f m a n]

theorem itN_lt {f : Nat → Nat} {N : Nat} (hf : ∀ x, x < N → f x < N) {a : Nat} (ha : a < N) : ∀ n, itN f n a < N
  | 0 => ha
  | n + 1 => hf _ (itN_lt hf ha n)

theorem itN_inj {f : Nat → Nat} {N : Nat} (hf : ∀ x, x < N → f x < N) (hi : ∀ x y, x < N → y < N → f x = f y → x = y) :
    ∀ n x y, x < N → y < N → itN f n x = itN f n y → x = y
  | 0, x, y, _, _, h => h
  | n + 1, x, y, hx, hy, h => itN_inj hf hi n x y hx hy (hi _ _ (itN_lt hf hx n) (itN_lt hf hy n) h)

/-- A walk that never meets two ways comes back to its first place. -/
theorem backAt {f : Nat → Nat} {N : Nat} (hf : ∀ x, x < N → f x < N) (hi : ∀ x y, x < N → y < N → f x = f y → x = y) {a : Nat} (ha : a < N) :
    ∃ m, 0 < m ∧ m ≤ N ∧ itN f m a = a ∧ ∀ j, 0 < j → j < m → itN f j a ≠ a := by
  have hex : ∃ m, 0 < m ∧ m ≤ N ∧ itN f m a = a := by
    apply Classical.byContradiction
    intro hno
    have hnd : ((List.range (N + 1)).map fun i => itN f i a).Nodup := by
      unfold List.Nodup
      rw [List.pairwise_map]
      refine List.pairwise_lt_range.imp_of_mem ?_
      intro i j hi1 hj1 hij e
      have hj2 := List.mem_range.1 hj1
      have e2 : itN f j a = itN f i (itN f (j - i) a) := by rw [← itN_add]; congr 1; omega
      rw [e2] at e
      exact hno ⟨j - i, by omega, by omega, (itN_inj hf hi i _ _ ha (itN_lt hf ha _) e).symm⟩
    have := nodup_leN N _ hnd (fun x hx => by
      obtain ⟨i, _, rfl⟩ := List.mem_map.1 hx
      exact itN_lt hf ha i)
    simp at this
    omega
  obtain ⟨m0, h1, h2, h3⟩ := hex
  obtain ⟨m, k1, k2, k3⟩ := leastP (P := fun m => 0 < m ∧ itN f m a = a) m0 ⟨h1, h3⟩
  exact ⟨m, k2.1, by omega, k2.2, fun j hj hjm e => k3 j hjm ⟨hj, e⟩⟩

/-- The other dart of a lead. -/
def tw (d : Nat) : Nat := if d % 2 = 1 then d - 1 else d + 1

theorem tw_lt {d n : Nat} (h : d < 2 * n) : tw d < 2 * n := by unfold tw; split <;> omega

theorem tw_inj {d e : Nat} (h : tw d = tw e) : d = e := by unfold tw at h; split at h <;> split at h <;> omega

theorem tw_xor {d : Nat} (h : d < 40) : bits .xor .i64 (d : Int) 1 = (tw d : Nat) := by
  have : ∀ d : Nat, d < 40 → bits .xor .i64 (d : Int) 1 = (tw d : Nat) := by decide +kernel
  exact this d h

theorem insM_perm (lt : Int → Int → Bool) (d : Int) (l : List Int) : ∀ m, (insM lt d l m).Perm (d :: l)
  | 0 => .refl _
  | m + 1 => by
    unfold insM
    split
    · exact insM_perm lt d l m
    · refine List.perm_middle.trans ?_
      rw [List.take_append_drop]

theorem aroL_nodup (ns ls : List Nd) (k : Nat) : ∀ n, (aroL ns ls k n).Nodup
  | 0 => List.nodup_nil
  | n + 1 => by
    unfold aroL
    split
    · unfold insL
      rw [(insM_perm _ _ _ _).nodup_iff, List.nodup_cons]
      refine ⟨fun h => ?_, aroL_nodup ns ls k n⟩
      obtain ⟨d, e, hd, _⟩ := aroL_mem ns ls k n _ h
      omega
    · exact aroL_nodup ns ls k n

theorem atZ_inj {l : List Int} (h : l.Nodup) {i j : Nat} (hi : i < l.length) (hj : j < l.length) (e : atZ l i = atZ l j) : i = j := by
  rw [← atZ_get hi, ← atZ_get hj] at e
  have hp := List.pairwise_iff_getElem.1 h
  rcases Nat.lt_trichotomy i j with hlt | rfl | hlt
  · exact absurd e (hp i j hi hj hlt)
  · rfl
  · exact absurd e.symm (hp j i hj hi hlt)

/-- A step around a node: a dart of the same node; back is one way. -/
theorem step_nat {ns ls : List Nd} {d : Nat} (s : Int) (hw : winB ns ls = true) (hd : d < 2 * ls.length) (hs : s = 1 ∨ s = -1) :
    ∃ (q p r : Nat), stepI ns ls s d = q ∧ q < 2 * ls.length ∧ dF ls q = dF ls d ∧ p < (roundL ns ls d).length ∧ atZ (roundL ns ls d) p = d ∧ r < (roundL ns ls d).length ∧ atZ (roundL ns ls d) r = q ∧ ((p : Int) + s + (roundL ns ls d).length) % ((roundL ns ls d).length : Int) = r := by
  have hh : hasDB ns ls d = true := by unfold hasDB; rw [hw, (idxB_iff _ _).2 (by omega)]; rfl
  obtain ⟨a, b, hda, hdb, ha, hb, -⟩ := dart_nat (ns := ns) hw hd
  obtain ⟨p, hp, h12, hat, hne⟩ := round_place (ns := ns) hw hd
  have hidx := index_of hp hat hne
  obtain ⟨q, hq1, hq2, hq3⟩ := step_rem p (roundL ns ls d).length s hp hs
  have hr : stepI ns ls s d = atZ (roundL ns ls d) q := by
    unfold stepI
    rw [if_pos hh]
    simp only [Int.toNat_natCast]
    rw [hidx, hq1]; rfl
  have he : roundL ns ls d = aroL ns ls a (2 * ls.length) := by unfold roundL; rw [hda]; rfl
  have hq2' := hq2
  rw [he] at hq2'
  obtain ⟨e, h1, h2, h3⟩ := aroL_at hq2'
  rw [← he] at h1
  exact ⟨e, p, q, hr.trans h1, h2, by rw [h3, hda], hp, hat, hq2, h1, hq1⟩

theorem step_inj {ns ls : List Nd} {d e : Nat} {s : Int} (hw : winB ns ls = true) (hd : d < 2 * ls.length) (he : e < 2 * ls.length) (hs : s = 1 ∨ s = -1) (h : stepI ns ls s d = stepI ns ls s e) : d = e := by
  obtain ⟨q, p, r, h1, h2, h3, h4, h5, h6, h7, h8⟩ := step_nat s hw hd hs
  obtain ⟨q', p', r', k1, k2, k3, k4, k5, k6, k7, k8⟩ := step_nat s hw he hs
  have eq : q = q' := by rw [h1, k1] at h; omega
  subst eq
  have er : roundL ns ls e = roundL ns ls d := by unfold roundL; rw [← k3, ← h3]
  rw [er] at k4 k5 k6 k7 k8
  have hnd : (roundL ns ls d).Nodup := by unfold roundL; exact aroL_nodup _ _ _ _
  have err := atZ_inj hnd h6 k6 (h7.trans k7.symm)
  subst err
  generalize (roundL ns ls d).length = n at *
  have : p = p' := by
    rcases hs with rfl | rfl
    · by_cases c1 : p + 1 < n <;> by_cases c2 : p' + 1 < n
      · rw [show ((p : Int) + 1 + n) = ((p + 1 : Nat) : Int) + n by omega, Int.add_emod_right, Int.emod_eq_of_lt (by omega) (by omega)] at h8
        rw [show ((p' : Int) + 1 + n) = ((p' + 1 : Nat) : Int) + n by omega, Int.add_emod_right, Int.emod_eq_of_lt (by omega) (by omega)] at k8
        omega
      · rw [show ((p : Int) + 1 + n) = ((p + 1 : Nat) : Int) + n by omega, Int.add_emod_right, Int.emod_eq_of_lt (by omega) (by omega)] at h8
        rw [show ((p' : Int) + 1 + n) = 0 + (n : Int) + n by omega, Int.add_emod_right, Int.add_emod_right, Int.zero_emod] at k8
        omega
      · rw [show ((p : Int) + 1 + n) = 0 + (n : Int) + n by omega, Int.add_emod_right, Int.add_emod_right, Int.zero_emod] at h8
        rw [show ((p' : Int) + 1 + n) = ((p' + 1 : Nat) : Int) + n by omega, Int.add_emod_right, Int.emod_eq_of_lt (by omega) (by omega)] at k8
        omega
      · omega
    · by_cases c1 : 0 < p <;> by_cases c2 : 0 < p'
      · rw [show ((p : Int) + -1 + n) = ((p - 1 : Nat) : Int) + n by omega, Int.add_emod_right, Int.emod_eq_of_lt (by omega) (by omega)] at h8
        rw [show ((p' : Int) + -1 + n) = ((p' - 1 : Nat) : Int) + n by omega, Int.add_emod_right, Int.emod_eq_of_lt (by omega) (by omega)] at k8
        omega
      · rw [show ((p : Int) + -1 + n) = ((p - 1 : Nat) : Int) + n by omega, Int.add_emod_right, Int.emod_eq_of_lt (by omega) (by omega)] at h8
        rw [show ((p' : Int) + -1 + n) = ((n - 1 : Nat) : Int) by omega, Int.emod_eq_of_lt (by omega) (by omega)] at k8
        omega
      · rw [show ((p : Int) + -1 + n) = ((n - 1 : Nat) : Int) by omega, Int.emod_eq_of_lt (by omega) (by omega)] at h8
        rw [show ((p' : Int) + -1 + n) = ((p' - 1 : Nat) : Int) + n by omega, Int.add_emod_right, Int.emod_eq_of_lt (by omega) (by omega)] at k8
        omega
      · omega
  subst this
  exact Int.ofNat_inj.1 (h5.symm.trans k5)

/-- The dart after d on the border of the face to its left. -/
def nxN (ns ls : List Nd) (d : Nat) : Nat := (stepI ns ls (-1) (tw d)).toNat

def nextI (ns ls : List Nd) (d : Int) : Int := if hasDB ns ls d = true then (nxN ns ls d.toNat : Nat) else -1

theorem nx_step {ns ls : List Nd} {d : Nat} (hw : winB ns ls = true) (hd : d < 2 * ls.length) : stepI ns ls (-1) (tw d) = (nxN ns ls d : Nat) := by
  obtain ⟨q, p, r, h1, _⟩ := step_nat (-1) hw (tw_lt hd) (.inr rfl)
  unfold nxN
  rw [h1]; rfl

theorem nx_lt {ns ls : List Nd} (hw : winB ns ls = true) : ∀ d, d < 2 * ls.length → nxN ns ls d < 2 * ls.length := by
  intro d hd
  obtain ⟨q, p, r, h1, h2, _⟩ := step_nat (-1) hw (tw_lt hd) (.inr rfl)
  unfold nxN
  rw [h1]; exact h2

theorem nx_inj {ns ls : List Nd} (hw : winB ns ls = true) : ∀ d e, d < 2 * ls.length → e < 2 * ls.length → nxN ns ls d = nxN ns ls e → d = e := by
  intro d e hd he h
  refine tw_inj (step_inj hw (tw_lt hd) (tw_lt he) (.inr rfl) ?_)
  rw [nx_step hw hd, nx_step hw he, h]

open Classical in
/-- How many darts the walk from d has. -/
noncomputable def perN (ns ls : List Nd) (d : Nat) : Nat := if h : ∃ m, 0 < m ∧ m ≤ 2 * ls.length ∧ itN (nxN ns ls) m d = d ∧ ∀ j, 0 < j → j < m → itN (nxN ns ls) j d ≠ d then Classical.choose h else 0

theorem perN_spec {ns ls : List Nd} {d : Nat} (hw : winB ns ls = true) (hd : d < 2 * ls.length) :
    0 < perN ns ls d ∧ perN ns ls d ≤ 2 * ls.length ∧ itN (nxN ns ls) (perN ns ls d) d = d ∧ ∀ j, 0 < j → j < perN ns ls d → itN (nxN ns ls) j d ≠ d := by
  have h := backAt (nx_lt hw) (nx_inj hw) hd
  unfold perN
  rw [dif_pos h]
  exact Classical.choose_spec h

/-- The first k darts of the walk from d. -/
def wkL (ns ls : List Nd) (d k : Nat) : List Int := (List.range k).map fun i => ((itN (nxN ns ls) i d : Nat) : Int)

theorem wkL_len (ns ls : List Nd) (d k : Nat) : (wkL ns ls d k).length = k := by simp [wkL]

theorem wkL_succ (ns ls : List Nd) (d k : Nat) : wkL ns ls d (k + 1) = wkL ns ls d k ++ [((itN (nxN ns ls) k d : Nat) : Int)] := by simp [wkL, List.range_succ]

noncomputable def walkN (ns ls : List Nd) (d : Nat) : List Int := wkL ns ls d (perN ns ls d)

noncomputable def walkI (ns ls : List Nd) (d : Int) : List Int := if hasDB ns ls d = true then walkN ns ls d.toNat else []

theorem wkL_at {ns ls : List Nd} {d k : Nat} {i : Nat} (h : i < k) : atZ (wkL ns ls d k) i = ((itN (nxN ns ls) i d : Nat) : Int) := by
  unfold atZ wkL
  simp [List.getD, h]

theorem walkI_len (ns ls : List Nd) (d : Int) : (walkI ns ls d).length ≤ 40 := by
  unfold walkI
  split
  · rename_i h
    obtain ⟨n, rfl, hd, h20, hw⟩ := hasDB_nat h
    have := (perN_spec hw hd).2.1
    unfold walkN
    rw [wkL_len, Int.toNat_natCast]; omega
  · simp

/-- Every dart of a walk is one of the window. -/
theorem walkI_at {ns ls : List Nd} {d : Int} {i : Nat} (h : i < (walkI ns ls d).length) : winB ns ls = true ∧ ∃ q : Nat, atZ (walkI ns ls d) i = q ∧ q < 2 * ls.length := by
  unfold walkI at *
  split at h
  · rename_i hh
    obtain ⟨n, rfl, hd, h20, hw⟩ := hasDB_nat hh
    rw [if_pos hh]
    unfold walkN at *
    rw [wkL_len, Int.toNat_natCast] at h
    rw [Int.toNat_natCast, wkL_at h]
    exact ⟨hw, _, rfl, itN_lt (nx_lt hw) hd i⟩
  · simp at h

/-- Twice the area to the left of the first n darts of a walk. -/
def areaL (ns ls : List Nd) (l : List Int) : Nat → Int
  | 0 => 0
  | n + 1 => areaL ns ls l n + ((atI ns (dF ls (atZ l n).toNat)).x * (atI ns (dT ls (atZ l n).toNat)).y - (atI ns (dF ls (atZ l n).toNat)).y * (atI ns (dT ls (atZ l n).toNat)).x)
end Go.Proofs.YtepacoacalhdcaaGreat

namespace Go.Proofs.YtepacoacalhdcaaGreat
open Go.RowKit
set_option linter.unusedVariables false
set_option linter.unusedSimpArgs false

def seenB (fs : List (List Int)) (x : Int) : Bool := fs.any fun r => r.contains x

theorem seenB_iff (fs : List (List Int)) (x : Int) : seenB fs x = true ↔ ∃ r, r ∈ fs ∧ x ∈ r := by simp [seenB]

theorem seenB_app (fs : List (List Int)) (r : List Int) (x : Int) : seenB (fs ++ [r]) x = (seenB fs x || r.contains x) := by simp [seenB]

/-- The least darts of the walks among the first n darts. -/
noncomputable def startsL (ns ls : List Nd) : Nat → List Nat
  | 0 => []
  | n + 1 => if seenB ((startsL ns ls n).map fun d => walkN ns ls d) (n : Int) = true then startsL ns ls n else startsL ns ls n ++ [n]

noncomputable def facesN (ns ls : List Nd) (n : Nat) : List (List Int) := (startsL ns ls n).map fun d => walkN ns ls d

theorem startsL_succ (ns ls : List Nd) (n : Nat) : startsL ns ls (n + 1) = if seenB (facesN ns ls n) (n : Int) = true then startsL ns ls n else startsL ns ls n ++ [n] := rfl

theorem facesN_zero (ns ls : List Nd) : facesN ns ls 0 = [] := rfl

theorem facesN_succ (ns ls : List Nd) (n : Nat) : facesN ns ls (n + 1) = if seenB (facesN ns ls n) (n : Int) = true then facesN ns ls n else facesN ns ls n ++ [walkN ns ls n] := by
  have e := startsL_succ ns ls n
  by_cases h : seenB (facesN ns ls n) (n : Int) = true
  · rw [if_pos h] at e ⊢
    unfold facesN
    rw [e]
  · rw [if_neg h] at e ⊢
    unfold facesN
    rw [e]
    simp

theorem startsL_lt (ns ls : List Nd) : ∀ n d, d ∈ startsL ns ls n → d < n
  | 0, d, h => by simp [startsL] at h
  | n + 1, d, h => by
    rw [startsL_succ] at h
    split at h
    · have := startsL_lt ns ls n d h; omega
    · rw [List.mem_append] at h
      rcases h with h | h
      · have := startsL_lt ns ls n d h; omega
      · simp at h; omega

theorem startsL_len (ns ls : List Nd) : ∀ n, (startsL ns ls n).length ≤ n
  | 0 => Nat.le_refl _
  | n + 1 => by
    have := startsL_len ns ls n
    rw [startsL_succ]
    split
    · omega
    · simp; omega

theorem startsL_sorted (ns ls : List Nd) : ∀ n, (startsL ns ls n).Pairwise (· < ·)
  | 0 => List.Pairwise.nil
  | n + 1 => by
    have := startsL_sorted ns ls n
    rw [startsL_succ]
    split
    · exact this
    · rw [List.pairwise_append]
      exact ⟨this, List.pairwise_singleton _ _, fun a ha b hb => by
        simp at hb; subst hb; exact startsL_lt ns ls _ _ ha⟩

/-- What lies on a walk: all that can be reached. -/
theorem itN_mul {f : Nat → Nat} {p a : Nat} (h : itN f p a = a) : ∀ k, itN f (k * p) a = a
  | 0 => by simp [itN]
  | k + 1 => by rw [Nat.succ_mul, itN_add, h, itN_mul h k]

theorem walk_mem {ns ls : List Nd} {d : Nat} (hw : winB ns ls = true) (hd : d < 2 * ls.length) (x : Int) : x ∈ walkN ns ls d ↔ ∃ k, x = (itN (nxN ns ls) k d : Nat) := by
  obtain ⟨p0, p1, p2, p3⟩ := perN_spec hw hd
  unfold walkN wkL
  rw [List.mem_map]
  constructor
  · rintro ⟨i, _, rfl⟩; exact ⟨i, rfl⟩
  · rintro ⟨k, rfl⟩
    refine ⟨k % perN ns ls d, List.mem_range.2 (Nat.mod_lt _ p0), ?_⟩
    have e : itN (nxN ns ls) k d = itN (nxN ns ls) (k % perN ns ls d) d := by
      have : k = k % perN ns ls d + (k / perN ns ls d) * perN ns ls d := by rw [Nat.mul_comm]; exact (Nat.mod_add_div _ _).symm
      conv => lhs; rw [this]
      rw [itN_add, itN_mul p2]
    rw [e]

theorem walk_self {ns ls : List Nd} {d : Nat} (hw : winB ns ls = true) (hd : d < 2 * ls.length) : (d : Int) ∈ walkN ns ls d := (walk_mem hw hd _).2 ⟨0, rfl⟩

theorem walk_nat {ns ls : List Nd} {d : Nat} (hw : winB ns ls = true) (hd : d < 2 * ls.length) {x : Int} (h : x ∈ walkN ns ls d) : ∃ q : Nat, x = q ∧ q < 2 * ls.length := by
  obtain ⟨k, rfl⟩ := (walk_mem hw hd _).1 h
  exact ⟨_, rfl, itN_lt (nx_lt hw) hd k⟩

/-- Two walks that meet hold the same darts. -/
theorem walk_meet {ns ls : List Nd} {d e : Nat} (hw : winB ns ls = true) (hd : d < 2 * ls.length) (he : e < 2 * ls.length) {x : Int} (h1 : x ∈ walkN ns ls d) (h2 : x ∈ walkN ns ls e) : (e : Int) ∈ walkN ns ls d := by
  obtain ⟨i, rfl⟩ := (walk_mem hw hd _).1 h1
  obtain ⟨j, hj⟩ := (walk_mem hw he _).1 h2
  have hj := Int.ofNat_inj.1 hj
  obtain ⟨p0, p1, p2, p3⟩ := perN_spec hw he
  have hk : j ≤ j * perN ns ls e := Nat.le_mul_of_pos_right _ p0
  refine (walk_mem hw hd _).2 ⟨(j * perN ns ls e - j) + i, ?_⟩
  rw [itN_add, hj, ← itN_add, Nat.sub_add_cancel hk, itN_mul p2]

theorem facesN_row {ns ls : List Nd} {n : Nat} {r : List Int} (h : r ∈ facesN ns ls n) : ∃ d : Nat, d ∈ startsL ns ls n ∧ r = walkN ns ls d := by
  obtain ⟨d, hd, rfl⟩ := List.mem_map.1 h
  exact ⟨d, hd, rfl⟩

/-- Each dart is met. -/
theorem faces_all {ns ls : List Nd} (hw : winB ns ls = true) : ∀ n d, n ≤ 2 * ls.length → d < n → seenB (facesN ns ls n) (d : Int) = true
  | 0, d, _, h => by omega
  | n + 1, d, hn, h => by
    rw [facesN_succ]
    by_cases hs : seenB (facesN ns ls n) (n : Int) = true
    · rw [if_pos hs]
      by_cases e : d = n
      · subst e; exact hs
      · exact faces_all hw n d (by omega) (by omega)
    · rw [if_neg hs, seenB_app]
      by_cases e : d = n
      · subst e
        have := walk_self (ns := ns) (ls := ls) (d := d) hw (by omega)
        simp [this]
      · rw [faces_all hw n d (by omega) (by omega)]; rfl

/-- A walk that begins anew meets none of the elder ones. -/
theorem faces_new {ns ls : List Nd} (hw : winB ns ls = true) {n : Nat} (hn : n < 2 * ls.length) (hs : seenB (facesN ns ls n) (n : Int) ≠ true) {x : Int} (hx : x ∈ walkN ns ls n) : seenB (facesN ns ls n) x = false := by
  rw [Bool.eq_false_iff]
  intro h
  obtain ⟨r, hr, hxr⟩ := (seenB_iff _ _).1 h
  obtain ⟨d, hd, rfl⟩ := facesN_row hr
  have hlt := startsL_lt ns ls n d hd
  exact hs ((seenB_iff _ _).2 ⟨_, hr, walk_meet hw (by omega) hn hxr hx⟩)

/-- The place of the first row that holds x. -/
def fIx : List (List Int) → Int → Nat
  | [], _ => 0
  | r :: rs, x => if r.contains x = true then 0 else fIx rs x + 1

theorem fIx_app {fs : List (List Int)} {r : List Int} {x : Int} (h : seenB fs x = true) : fIx (fs ++ [r]) x = fIx fs x := by
  induction fs with
  | nil => simp [seenB] at h
  | cons a t ih =>
    simp only [List.cons_append, fIx]
    by_cases e : a.contains x = true
    · rw [if_pos e, if_pos e]
    · rw [if_neg e, if_neg e, ih (by
        have e' : a.contains x = false := by simpa using e
        unfold seenB at h ⊢
        rw [List.any_cons, e', Bool.false_or] at h
        exact h)]

theorem fIx_new {fs : List (List Int)} {r : List Int} {x : Int} (h : seenB fs x = false) (hr : r.contains x = true) : fIx (fs ++ [r]) x = fs.length := by
  induction fs with
  | nil => simp only [List.nil_append, fIx]; rw [if_pos hr]; rfl
  | cons a t ih =>
    simp only [List.cons_append, fIx]
    have h' : a.contains x = false ∧ seenB t x = false := by
      unfold seenB at h ⊢
      rw [List.any_cons, Bool.or_eq_false_iff] at h
      exact h
    rw [if_neg (by rw [h'.1]; simp), ih h'.2]; rfl

theorem fIx_lt {fs : List (List Int)} {x : Int} (h : seenB fs x = true) : fIx fs x < fs.length := by
  induction fs with
  | nil => simp [seenB] at h
  | cons a t ih =>
    simp only [fIx]
    by_cases e : a.contains x = true
    · rw [if_pos e]; simp
    · rw [if_neg e]
      have e' : a.contains x = false := by simpa using e
      have := ih (by
        unfold seenB at h ⊢
        rw [List.any_cons, e', Bool.false_or] at h
        exact h)
      simp; omega

/-- Row q of the faces holds each dart of its walk, and the first row that holds it is this one. -/
theorem fIx_row {ns ls : List Nd} (hw : winB ns ls = true) : ∀ n, n ≤ 2 * ls.length → ∀ q (hq : q < (startsL ns ls n).length) x, x ∈ walkN ns ls ((startsL ns ls n).getD q 0) → fIx (facesN ns ls n) x = q
  | 0, _, q, hq, x, h => by simp [startsL] at hq
  | n + 1, hn, q, hq, x, h => by
    by_cases hs : seenB (facesN ns ls n) (n : Int) = true
    · rw [startsL_succ, if_pos hs] at h hq
      rw [facesN_succ, if_pos hs]
      exact fIx_row hw n (by omega) q hq x h
    · rw [startsL_succ, if_neg hs] at h hq
      rw [facesN_succ, if_neg hs]
      by_cases hlt : q < (startsL ns ls n).length
      · have e : (startsL ns ls n ++ [n]).getD q 0 = (startsL ns ls n).getD q 0 := by simp [List.getD, List.getElem?_append, hlt]
        rw [e] at h
        have hsn : seenB (facesN ns ls n) x = true := (seenB_iff _ _).2 ⟨_, List.mem_map.2 ⟨(startsL ns ls n).getD q 0, by simp [List.getD, hlt], rfl⟩, h⟩
        rw [fIx_app hsn]
        exact fIx_row hw n (by omega) q hlt x h
      · have hq' : q = (startsL ns ls n).length := by simp at hq; omega
        subst hq'
        have e : (startsL ns ls n ++ [n]).getD (startsL ns ls n).length 0 = n := by simp [List.getD]
        rw [e] at h
        rw [fIx_new (faces_new hw (by omega) hs h) (by simpa using h)]
        simp [facesN]

noncomputable def facesL (ns ls : List Nd) : List (List Int) := facesN ns ls (2 * ls.length)
end Go.Proofs.YtepacoacalhdcaaGreat
