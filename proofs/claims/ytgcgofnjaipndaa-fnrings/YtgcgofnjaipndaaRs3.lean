/- Contracts of the laws' helpers on rings; a ring among the arguments. -/
import Derived.Test.YtgcgofnjaipndaaRs2
import Derived.Test.YtgcgofnjaipndaaRo8
import Derived.Deep.Slices
import Derived.Lib.SmallJoins
import Derived.ShutString
import Derived.ChangeOld
namespace Go.Proofs.Ytgcgofnjaipndaa.rg
open Go.ChangeShapes Go.WideShapes Go.ChangeAt Go.RowKit
open Go.Deep Go.Joins
open Go.Proofs.Ytgcgofnjaipndaa.ce Go.Proofs.Ytgcgofnjaipndaa.ro
set_option linter.unusedVariables false

theorem add_noneR {a : Addr} (h : a.spot = none) (j : Nat) : a.add j = ⟨a.block, a.off + j, none⟩ := by
  obtain ⟨b, o, s⟩ := a
  simp at h
  subst h
  simp [Addr.add]
theorem rd_of_trod {α : Type} [Inhabited α] (E : Enc α) (hk : E.k = 1) (p : α → Prop) {H : Type} {enc : TypeId × Value → H} {w : World} {n : Nat} {v : Value} {T : TypeId} {x : DataW H × List MemPlace} (hT : Try.prog.underlying T = some (.slice E.t)) (hc : Try.prog.cellsOf E.t = 1)
    (dec : ∀ m cs y, DataW.trod enc Try.prog w 0 (fun _ => true) true m E.t cs = some y → ∃ z, cs = E.put z ∧ p z)
    (h : DataW.trod enc Try.prog w 0 (fun _ => true) true n T [v] = some x) : ∃ L, Rd E w v L ∧ ∀ z ∈ L, p z := by
  rcases open_slice hT h with ⟨hcs, -⟩ | ⟨a, len, cap, m, n', D, Pl, hcs, -, hl, hm, hmm, -, hrow⟩
  · obtain rfl : v = .slice none 0 0 := by simpa using hcs
    exact ⟨[], rd_zero E w none 0 (Nat.zero_le _), fun k hk => by simp at hk⟩
  · obtain rfl : v = .slice (some a) len cap := by simpa using hcs
    rw [hc] at hrow
    have hlm : len ≤ m := by rw [hmm]; simp; exact hl
    have hex : ∀ i, i < len → ∃ z : α, w.cells? 0 (a.add (i * 1)) 1 = some (E.put z) ∧ p z := fun i hi => by
      obtain ⟨cs', h1, h2⟩ := hrow i (by omega)
      obtain ⟨z, e0, hz⟩ := dec _ _ _ h2
      rw [e0] at h1
      exact ⟨z, h1, hz⟩
    obtain ⟨F, hF⟩ := choose_lt hex
    refine ⟨(List.range len).map F, ⟨some a, cap, by simp, by simpa using hl, hm, fun hn => ?_⟩, fun k hk => ?_⟩
    rotate_left
    · obtain ⟨i, hi, rfl⟩ := List.mem_map.1 hk
      exact (hF i (by simpa using hi)).2
    have h0 : 0 < len := by
      rcases Nat.eq_zero_or_pos len with e | e
      · subst e; exact absurd rfl hn
      · exact e
    have hcell : ∀ i, i < len → (E.put (F i))[0]? = w.cell? (a.add i) := fun i hi => by
      obtain ⟨h1, h2, h3⟩ := World.cells?_some (hF i hi).1
      have := h3 0 (by omega)
      rw [Nat.mul_one] at this
      have e : (a.add i).add 0 = a.add i := by obtain ⟨b, o, s⟩ := a; cases s <;> simp [Addr.add]
      rw [e] at this
      rw [this]
    have hsome : ∀ i, i < len → ∃ u, w.cell? (a.add i) = some u := fun i hi => by
      rw [← hcell i hi, List.getElem?_eq_getElem (by rw [E.len, hk]; decide)]
      exact ⟨_, rfl⟩
    have hspot : a.spot = none := by
      obtain ⟨u, hu⟩ := hsome 0 h0
      have h5 : (a.add 0).spot = none := World.cell?_spot hu
      obtain ⟨b, o, s⟩ := a
      cases s with
      | none => rfl
      | some s => simp [Addr.add] at h5
    have hlt : a.block < w.heap.size := by
      obtain ⟨u, hu⟩ := hsome 0 h0
      rw [add_noneR hspot] at hu
      exact World.block_lt_of_cell? w ⟨a.block, a.off + 0, none⟩ hu
    refine ⟨a.block, a.off, by obtain ⟨b, o, s⟩ := a; simp at hspot; subst hspot; rfl, hlt, fun k u hku => ?_⟩
    have hkl : k < len := by
      have := (List.getElem?_eq_some_iff.1 hku).1
      rw [Enc.row_len, hk] at this
      simpa using this
    have hg := E.row_get ((List.range len).map F) k 0 (by simpa using hkl) (by rw [hk]; decide)
    rw [hk, Nat.mul_one, Nat.add_zero] at hg
    rw [hg] at hku
    have e : ((List.range len).map F)[k]'(by simpa using hkl) = F k := by simp
    rw [e, hcell k hkl, add_noneR hspot] at hku
    exact hku
theorem cellsStr : Try.prog.cellsOf 9 = 1 := by kernel_rfl
theorem cellsBoo : Try.prog.cellsOf 4 = 1 := by kernel_rfl
theorem cellsInt : Try.prog.cellsOf 2 = 1 := by kernel_rfl
theorem cellsSs : Try.prog.cellsOf 23 = 1 := by kernel_rfl
theorem cellsBs : Try.prog.cellsOf 24 = 1 := by kernel_rfl
theorem cellsLRg : Try.prog.cellsOf 26 = 3 := by kernel_rfl
theorem rdS_of_trod {H : Type} {enc : TypeId × Value → H} {w : World} {n : Nat} {v : Value} {x : DataW H × List MemPlace} (h : DataW.trod enc Try.prog w 0 (fun _ => true) true n 23 [v] = some x) : ∃ L, Rd encS w v L ∧ ∀ s ∈ L, s.size ≤ 9223372036854775807 :=
  rd_of_trod encS rfl _ Try.underlying23 cellsStr (fun m cs y hy => by
    obtain ⟨s, e, -, h1⟩ := DataW.trod_string Try.underlying9 hy
    exact ⟨s, e, h1⟩) h
theorem rdB_of_trod {H : Type} {enc : TypeId × Value → H} {w : World} {n : Nat} {v : Value} {x : DataW H × List MemPlace} (h : DataW.trod enc Try.prog w 0 (fun _ => true) true n 24 [v] = some x) : ∃ L, Rd encB w v L := by
  obtain ⟨L, hL, -⟩ := rd_of_trod encB rfl (fun _ => True) Try.underlying24 cellsBoo (fun m cs y hy => by
    obtain ⟨s, e, -⟩ := DataW.trod_bool Try.underlying4 hy
    exact ⟨s, e, trivial⟩) h
  exact ⟨L, hL⟩
set_option maxRecDepth 100000 in
/-- a ring among the arguments -/
theorem open_ring {H : Type} {enc : TypeId × Value → H} {W : World} {r : Reach} {b0 : Nat} {v : Value} {d : DataW H} {p : List MemPlace} (hw : Value.okWide Try.prog W r b0 26 v) (h : DataW.Trod enc Try.prog W 0 (fun _ => true) true 26 v d p) :
    ∃ vN vU rr, v = .agg #[vN, vU, .int .i64 rr.A] ∧ RdR W vN vU rr := by
  obtain ⟨cs, rfl, hsz⟩ := okWide_struct Try.underlying26 hw
  obtain ⟨m, hm⟩ := h
  have hm' : DataW.trod enc Try.prog W 0 (fun _ => true) true m 26 cs.toList = some (d, p) := by simpa [Value.cells] using hm
  obtain ⟨xs, m', -, -, hl, hxs, hf⟩ := DataW.trod_struct Try.underlying26 hm'
  rw [cellsLRg] at hl
  have e : ∃ v0 v1 v2, cs.toList = [v0, v1, v2] := by
    match cs.toList, hl with
    | [v0, v1, v2], _ => exact ⟨v0, v1, v2, rfl⟩
  obtain ⟨v0, v1, v2, e⟩ := e
  rw [e] at hf
  match xs, hxs with
  | [y0, y1, y2], _ =>
    have h0 := hf 0 _ rfl
    have h1 := hf 1 _ rfl
    have h2 := hf 2 _ rfl
    simp [cellsInt, cellsSs, cellsBs] at h0 h1 h2
    obtain ⟨N, rN, sN⟩ := rdS_of_trod h0
    obtain ⟨U, rU⟩ := rdB_of_trod h1
    obtain ⟨n, e0, -, -⟩ := DataW.trod_int Try.underlying2 h2
    simp at e0
    subst e0
    refine ⟨v0, v1, ⟨N, U, n⟩, ?_, ⟨rN, rU, sN⟩⟩
    have e2 : cs = #[v0, v1, .int .i64 n] := by rw [← Array.toArray_toList (xs := cs), e]
    rw [e2]

set_option maxRecDepth 100000 in
theorem szRing_any (r : Rg) (vN vU : Value) (w : World) (h : RdR w vN vU r) :
    Calls Try.prog 13 #[.agg #[vN, vU, .int .i64 r.A], .int .i64 1048576] w fun e w' => ∃ q : Int, e = .returned (.int .i64 q) ∧ Below w.heap.size w w' ∧ (0 ≤ q → r.N.length ≤ 1048576 ∧ r.U.length ≤ 1048576) := by
  obtain ⟨a, cap, rfl⟩ := h.n.form
  obtain ⟨c, dc, rfl⟩ := h.u.form
  have R : Hid (RdR w (.slice a r.N.length cap) (.slice c r.U.length dc) r) := h
  clear h
  have m1 : Hid True := trivial
  go_enter Try.func13, Try.ntmps13
  go_wp2_with (first | (clear m1; refine wpList_box_v rfl 26 _ rfl [.slice a r.N.length cap, .slice c r.U.length dc, .int .i64 r.A] rfl ?_; intro b2 w1 hb2 hw2 hB1 V2; have hz1 := hB1.size; obtain ⟨c0, c1, c2⟩ := cells3 V2) | (go_at_call 38; refine (szTexts_any r.N _ 1048576 (by omega) (by omega) _ (R.out.grow hB1).n R.out.s).mono ?_; rintro e wq ⟨q, rfl, hq, hq1, hq2⟩; subst wq; by_cases hneg : q < 0) | (go_at_call 39; refine (szBools_any r.U _ q (by omega) (by omega) _ (R.out.grow hB1).u).mono ?_; rintro e wq ⟨q', rfl, hq', hq3⟩; subst wq; by_cases hneg2 : q' < 0) | (fail))
  · go_ret
    exact ⟨-1, rfl, hB1, fun z => by omega⟩
  · go_ret
    exact ⟨-1, rfl, hB1, fun z => by omega⟩
  · go_ret
    exact ⟨q', rfl, hB1, fun z => ⟨by have := hq2 (by omega); omega, by have := hq3 (by omega); omega⟩⟩

set_option maxRecDepth 100000 in
set_option maxHeartbeats 1000000 in
theorem toRing_any (r : Rg) (vN vU : Value) (w : World) (h : RdR w vN vU r) (hN : r.N.length ≤ 1048576) (hU : r.U.length ≤ 1048576) :
    Calls Try.prog 15 #[.agg #[vN, vU, .int .i64 r.A]] w fun e w' => ∃ vN' vU', e = .returned (.agg #[vN', vU', .int .i64 r.A]) ∧ OwnR w' w.heap.size w'.heap.size vN' vU' r ∧ Below w.heap.size w w' := by
  obtain ⟨a, cap, rfl⟩ := h.n.form
  obtain ⟨c, dc, rfl⟩ := h.u.form
  have R : Hid (RdR w (.slice a r.N.length cap) (.slice c r.U.length dc) r) := h
  clear h
  have m1 : Hid True := trivial
  have m2 : Hid True := trivial
  have m3 : Hid True := trivial
  go_enter Try.func15, Try.ntmps15
  go_wp2_with (first | (clear m1; refine wpList_box_v rfl 26 _ rfl [.slice a r.N.length cap, .slice c r.U.length dc, .int .i64 r.A] rfl ?_; intro b1 w1 hb1 hw1 hB1 V1; have hz1 := hB1.size) | (clear m2; refine wpList_alloc_v rfl 29 rfl _ zeroRg ?_; intro b2 w2 hb2 hw2 hB2 V2; have hz2 := hB2.size; replace V1 := vblk_grow V1 hB2; have hB := hB1.trans (hB2.mono hz1)) | (clear m3; refine wpList_alloc_v rfl 29 rfl _ zeroRg ?_; intro b3 w3 hb3 hw3 hB3 V3; have hz3 := hB3.size; replace V1 := vblk_grow V1 hB3; replace V2 := vblk_grow V2 hB3; replace hB := hB.trans (hB3.mono (by omega)); obtain ⟨c0, c1, c2⟩ := cells3 V1) | (go_at_call 41; refine (toTexts_any r.N _ _ (R.out.grow hB).n hN).mono ?_; rintro e w4 ⟨v4, rfl, n4, hB4⟩; have hz4 := hB4.size; replace V1 := vblk_grow V1 hB4; replace V2 := vblk_grow V2 hB4; replace V3 := vblk_grow V3 hB4; replace hB := hB.trans (hB4.mono (by omega)); obtain ⟨a4, l4, k4, rfl⟩ := n4.slice) | (refine wpList_store_ss rfl _ _ rfl b3 0 a4 l4 k4 rfl rfl V3 (by simp) ?_; intro w5 hO5 X3; have hz5 := Nat.le_of_eq hO5.1.symm; have hy5 := Nat.le_of_eq hO5.1; replace n4 := n4.only hO5 V3 (by decide); replace V1 := vblk_only V1 hO5 (by omega); replace V2 := vblk_only V2 hO5 (by omega); replace hB := hB.trans (hO5.2.2 _ (by omega)); clear V3; have V3 := X3; clear X3; clear c0 c1 c2; obtain ⟨c0, c1, c2⟩ := cells3 V1) | (go_at_call 42; refine (toBools_any r.U _ _ (R.out.grow hB).u hU).mono ?_; rintro e w6 ⟨v6, rfl, u6, hB6⟩; have hz6 := hB6.size; replace V1 := vblk_grow V1 hB6; replace V2 := vblk_grow V2 hB6; replace V3 := vblk_grow V3 hB6; replace n4 := n4.grow hB6; replace hB := hB.trans (hB6.mono (by omega)); obtain ⟨a6, l6, k6, rfl⟩ := u6.slice) | (refine wpList_store_bs rfl _ _ rfl b3 1 a6 l6 k6 rfl rfl V3 (by simp) ?_; intro w7 hO7 X3; have hz7 := Nat.le_of_eq hO7.1.symm; have hy7 := Nat.le_of_eq hO7.1; replace n4 := n4.only hO7 V3 (by decide); replace u6 := u6.only hO7 V3 (by decide); replace V1 := vblk_only V1 hO7 (by omega); replace V2 := vblk_only V2 hO7 (by omega); replace hB := hB.trans (hO7.2.2 _ (by omega)); clear V3; have V3 := X3; clear X3; clear c0 c1 c2; obtain ⟨c0, c1, c2⟩ := cells3 V1) | (refine wpList_store_n rfl _ _ rfl b3 2 r.A rfl rfl V3 (by simp) ?_; intro w8 hO8 X3; have hz8 := Nat.le_of_eq hO8.1.symm; have hy8 := Nat.le_of_eq hO8.1; replace n4 := n4.only hO8 V3 (by decide); replace u6 := u6.only hO8 V3 (by decide); replace V2 := vblk_only V2 hO8 (by omega); replace hB := hB.trans (hO8.2.2 _ (by omega)); clear V3; have V3 := X3; clear X3; clear c0 c1 c2; obtain ⟨c0, c1, c2⟩ := cells3 V3) | (refine wpList_store_v rfl 29 _ _ rfl b2 [.slice a4 l4 k4, .slice a6 l6 k6, .int .i64 r.A] rfl rfl sizeRg V2 rfl (by simp [Value.oneCell']) ?_; intro w9 hO9 V9; replace n4 := n4.only hO9 V2 (by decide); replace u6 := u6.only hO9 V2 (by decide); replace hB := hB.trans (hO9.2.2 _ (by omega))) | (fail))
  exact row_retv rfl rfl V9 Try.underlying29 sizeRg rfl ⟨_, _, rfl, ⟨(n4.wide (by omega) (Nat.le_refl _)).top, (u6.wide (by omega) (Nat.le_refl _)).top⟩, hB⟩

set_option maxRecDepth 100000 in
theorem eqRing_any (r : Rg) (vN vU vN' vU' : Value) (w : World) (hn : Rd encS w vN r.N) (hu : Rd encB w vU r.U) (hn' : Rd encS w vN' r.N) (hu' : Rd encB w vU' r.U) :
    Calls Try.prog 17 #[.agg #[vN, vU, .int .i64 r.A], .agg #[vN', vU', .int .i64 r.A]] w fun e w' => e = .returned (.bool true) ∧ Below w.heap.size w w' := by
  obtain ⟨a, cap, rfl⟩ := hn.form
  obtain ⟨c, dc, rfl⟩ := hu.form
  obtain ⟨a', cap', rfl⟩ := hn'.form
  obtain ⟨c', dc', rfl⟩ := hu'.form
  have R1 : Hid (Rd encS w (.slice a r.N.length cap) r.N) := hn
  have R2 : Hid (Rd encB w (.slice c r.U.length dc) r.U) := hu
  have R3 : Hid (Rd encS w (.slice a' r.N.length cap') r.N) := hn'
  have R4 : Hid (Rd encB w (.slice c' r.U.length dc') r.U) := hu'
  clear hn hu hn' hu'
  have hAA : (r.A != r.A) = false := by simp
  have m1 : Hid True := trivial
  have m2 : Hid True := trivial
  go_enter Try.func17, Try.ntmps17
  go_wp2_with (first | (clear m1; refine wpList_box_v rfl 29 _ rfl [.slice a r.N.length cap, .slice c r.U.length dc, .int .i64 r.A] rfl ?_; intro b1 w1 hb1 hw1 hB1 V1; have hz1 := hB1.size) | (clear m2; refine wpList_box_v rfl 29 _ rfl [.slice a' r.N.length cap', .slice c' r.U.length dc', .int .i64 r.A] rfl ?_; intro b2 w2 hb2 hw2 hB2 V2; have hz2 := hB2.size; replace V1 := vblk_grow V1 hB2; have hB := hB1.trans (hB2.mono hz1); obtain ⟨c0, c1, c2⟩ := cells3 V1; obtain ⟨d0, d1, d2⟩ := cells3 V2) | (go_at_call 44; refine (eqTexts_any r.N _ _ _ (R1.out.grow hB) (R3.out.grow hB)).mono ?_; rintro e w3 ⟨rfl, hB3⟩; have hz3 := hB3.size; replace V1 := vblk_grow V1 hB3; replace V2 := vblk_grow V2 hB3; replace hB := hB.trans (hB3.mono (by omega)); clear c0 c1 c2 d0 d1 d2; obtain ⟨c0, c1, c2⟩ := cells3 V1; obtain ⟨d0, d1, d2⟩ := cells3 V2) | (go_at_call 45; refine (eqBools_any r.U _ _ _ (R2.out.grow hB) (R4.out.grow hB)).mono ?_; rintro e w4 ⟨rfl, hB4⟩; have hz4 := hB4.size; replace V1 := vblk_grow V1 hB4; replace V2 := vblk_grow V2 hB4; replace hB := hB.trans (hB4.mono (by omega)); clear c0 c1 c2 d0 d1 d2; obtain ⟨c0, c1, c2⟩ := cells3 V1; obtain ⟨d0, d1, d2⟩ := cells3 V2) | (fail))
  go_ret
  exact ⟨rfl, hB⟩

/-- a ring with marks -/
def mkR (r : Rg) : Rg := ⟨smarks 1 r.N.length, bmarks (1 + r.N.length) r.U.length, r.A⟩
set_option maxRecDepth 100000 in
theorem markRing_any (r : Rg) (mm : Nat) (hmm : mm = 1 + r.N.length + r.U.length) (hN : r.N.length ≤ 1048576) (hU : r.U.length ≤ 1048576) (vN vU : Value) (lo hi : Nat) (w : World) (o : OwnR w lo hi vN vU r) :
    Calls Try.prog 20 #[.agg #[vN, vU, .int .i64 r.A], .int .i64 1] w fun e w' => e = .returned (.int .i64 mm) ∧ OwnR w' lo hi vN vU (mkR r) ∧ Within lo hi w w' := by
  obtain ⟨a, n, cap, rfl⟩ := o.n.slice
  obtain ⟨c, m, dc, rfl⟩ := o.u.slice
  have O : Hid (OwnR w lo hi (.slice a n cap) (.slice c m dc) r) := o
  have HM : Hid (mm = 1 + r.N.length + r.U.length) := hmm
  clear o hmm
  obtain ⟨m2, hm2⟩ : ∃ m2 : Nat, Hid (m2 = 1 + r.N.length) := ⟨_, rfl⟩
  have k1 : Hid True := trivial
  go_enter Try.func20, Try.ntmps20
  go_wp2_with (first | (clear k1; refine wpList_box_v rfl 29 _ rfl [.slice a n cap, .slice c m dc, .int .i64 r.A] rfl ?_; intro b1 w1 hb1 hw1 hB1 V1; have hz1 := hB1.size; obtain ⟨c0, c1, c2⟩ := cells3 V1; have O1 := O.out.grow hB1) | (go_at_call 52; refine (markTexts_any r.N _ lo hi 1 (by omega) (by omega) m2 hm2.out _ O1.n).mono ?_; rintro e w2 ⟨rfl, n2, hW2, hT2⟩; have u2 := hT2.own O1.u (by decide); have V2 := hT2.vblk V1 (by decide); clear c0 c1 c2; obtain ⟨c0, c1, c2⟩ := cells3 V2) | (go_at_call 53; refine (markBools_any r.U _ lo hi m2 (by have := hm2.out; omega) (by have := hm2.out; omega) mm (by have := hm2.out; have := HM.out; omega) _ u2).mono ?_; rintro e w3 ⟨rfl, u3, hW3, hT3⟩; have n3 := hT3.own n2 (by decide)) | (fail))
  go_ret
  have hm := hm2.out
  subst hm
  exact ⟨rfl, ⟨n3, u3⟩, ((Within.of_below hB1 (Nat.le_refl _)).trans hW2).trans hW3⟩

set_option maxRecDepth 100000 in
theorem heldRing_any (r : Rg) (mm : Nat) (hmm : mm = 1 + r.N.length + r.U.length) (hN : r.N.length ≤ 1048576) (hU : r.U.length ≤ 1048576) (vN vU : Value) (w : World) (hn : Rd encS w vN (mkR r).N) (hu : Rd encB w vU (mkR r).U) :
    Calls Try.prog 21 #[.agg #[vN, vU, .int .i64 r.A], .int .i64 1] w fun e w' => e = .returned (.int .i64 mm) ∧ Below w.heap.size w w' := by
  obtain ⟨a, n, cap, rfl⟩ : ∃ a n k, vN = .slice a n k := by obtain ⟨a, cap, e⟩ := hn.form; exact ⟨a, _, cap, e⟩
  obtain ⟨c, m, dc, rfl⟩ : ∃ a n k, vU = .slice a n k := by obtain ⟨a, cap, e⟩ := hu.form; exact ⟨a, _, cap, e⟩
  have R1 : Hid (Rd encS w (.slice a n cap) (smarks 1 r.N.length)) := hn
  obtain ⟨m2, hm2⟩ : ∃ m2 : Nat, Hid (m2 = 1 + r.N.length) := ⟨_, rfl⟩
  have R2 : Hid (Rd encB w (.slice c m dc) (bmarks m2 r.U.length)) := by have h := hu; have e := hm2.out; subst e; exact h
  have HM : Hid (mm = 1 + r.N.length + r.U.length) := hmm
  clear hn hu hmm
  have hp1 : ¬ (m2 : Int) < 0 := by omega
  have hp2 : ¬ (mm : Int) < 0 := by omega
  have k1 : Hid True := trivial
  go_enter Try.func21, Try.ntmps21
  go_wp2_with (first | (clear k1; refine wpList_box_v rfl 29 _ rfl [.slice a n cap, .slice c m dc, .int .i64 r.A] rfl ?_; intro b1 w1 hb1 hw1 hB1 V1; have hz1 := hB1.size; obtain ⟨c0, c1, c2⟩ := cells3 V1) | (go_at_call 54; refine (heldTexts_any r.N.length _ 1 (by omega) (by omega) m2 hm2.out _ (R1.out.grow hB1)).mono ?_; rintro e w2 ⟨rfl, hB2⟩; have hz2 := hB2.size; replace V1 := vblk_grow V1 hB2; have hB := hB1.trans (hB2.mono hz1); clear c0 c1 c2; obtain ⟨c0, c1, c2⟩ := cells3 V1) | (go_at_call 55; refine (heldBools_any r.U.length _ m2 (by have := hm2.out; omega) (by have := hm2.out; omega) mm (by have := hm2.out; have := HM.out; omega) _ (R2.out.grow hB)).mono ?_; rintro e w3 ⟨rfl, hB3⟩; replace hB := hB.trans (hB3.mono (by omega))) | (fail))
  go_ret
  exact ⟨rfl, hB⟩
end Go.Proofs.Ytgcgofnjaipndaa.rg
