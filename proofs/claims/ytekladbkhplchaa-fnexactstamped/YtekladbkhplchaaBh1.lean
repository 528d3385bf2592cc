/- The laws' helpers on a book; a book among the arguments. -/
import Derived.Test.YtekladbkhplchaaBb1
import Derived.Test.YtekladbkhplchaaIs2
import Derived.Test.YtekladbkhplchaaMkIt
import Derived.Lib.SmallJoins
import Derived.Deep.Slices
import Derived.Deep.RegionHeld3
import Derived.BigQuiet
namespace Go.Proofs.Ytekladbkhplchaa.rg
open Go.ChangeShapes Go.WideShapes Go.ChangeAt Go.RowKit
open Go.Deep Go.Joins
open Go.Proofs.Ytekladbkhplchaa.ce Go.Proofs.Ytekladbkhplchaa.ro
set_option linter.unusedVariables false

theorem szI1 : (Try.prog.info? 2).map (·.size) = some 1 := by kernel_rfl
theorem szL1 : (Try.prog.info? 29).map (·.size) = some 1 := by kernel_rfl
theorem wpList_store_cell {ops : Array Oper} {rest : List Oper} {o : Oper} {a : Act} {w : World} {Q : Exit → Act → World → Prop} (hgd : o.guard = none) (t : TypeId) (x y : Operand) (ho : o.op = .store t x y) (b j : Nat) (u : Value) (hx : a.eval x = .pointer (some ⟨b, j, none⟩)) (hy : a.eval y = u) (h1 : u.oneCell' = true) (hi : (Try.prog.info? t).map (·.size) = some 1)
    {T : TypeId} {vs : List Value} (V : VBlk w b T vs) (hj : j < vs.length) (h : ∀ w', Only b w w' → VBlk w' b T (vs.set j u) → wpList Try.prog ops Q rest (a.put o.dst undef) w') : wpList Try.prog ops Q (o :: rest) a w :=
  wpList_store_c hgd t x y ho b j u hx hy h1 hi _ (V.cell j hj) (V.frozen j) (h _ (only_set _ _ _ _) (V.set j u))
theorem szBook_le (I : List It) (X : Int) (v : Value) (L : Int) (hL : L ≤ 1048576) (hL0 : 0 ≤ L) (w : World) (r : Rd encLi w v I) (hs : Lo I) :
    Calls Try.prog 8 #[.agg #[v, .int .i64 X], .int .i64 L] w fun e w' => ∃ q : Int, e = .returned (.int .i64 q) ∧ Below w.heap.size w w' ∧ (0 ≤ q → I.length ≤ 1048576 ∧ SmK I) ∧ q ≤ 1048576 := by
  obtain ⟨a, cap, rfl⟩ := r.form
  have R : Hid (Rd encLi w (.slice a I.length cap) I) := r
  have HS : Hid (Lo I) := hs
  clear r hs
  go_enter Try.func8, Try.ntmps8
  go_wp2_with (first | (refine wpList_box_v rfl 24 _ rfl [.slice a I.length cap, .int .i64 X] rfl ?_; intro b1 w1 hb1 hw1 hB1 V1; obtain ⟨c0, c1⟩ := cells2 V1; have hz1 := hB1.size) | (go_at_call 32; refine (szItems_le I _ L hL hL0 _ (R.out.grow hB1) HS.out).mono ?_; rintro e w2 ⟨q, rfl, hB2, hq, hq1⟩; have HQ : Hid (0 ≤ q → I.length ≤ 1048576 ∧ SmK I) := hq; clear hq; by_cases hneg : q < 0) | (fail))
  · go_ret
    exact ⟨-1, rfl, hB1.trans (hB2.mono hz1), fun h => by omega, by omega⟩
  · go_ret
    exact ⟨q, rfl, hB1.trans (hB2.mono hz1), HQ.out, hq1⟩
theorem szBook_any (I : List It) (X : Int) (v : Value) (L : Int) (hL : L ≤ 1048576) (hL0 : 0 ≤ L) (w : World) (r : Rd encLi w v I) (hs : Lo I) :
    Calls Try.prog 8 #[.agg #[v, .int .i64 X], .int .i64 L] w fun e w' => ∃ q : Int, e = .returned (.int .i64 q) ∧ Below w.heap.size w w' ∧ (0 ≤ q → I.length ≤ 1048576 ∧ SmK I) :=
  (szBook_le I X v L hL hL0 w r hs).mono fun e w' ⟨q, h1, h2, h3, _⟩ => ⟨q, h1, h2, h3⟩
set_option maxHeartbeats 1000000 in
theorem toBook_any (I : List It) (X : Int) (v : Value) (w : World) (r : Rd encLi w v I) (hl : I.length ≤ 1048576) :
    Calls Try.prog 11 #[.agg #[v, .int .i64 X]] w fun e w' => ∃ v', e = .returned (.agg #[v', .int .i64 X]) ∧ Own encIt w' w.heap.size w'.heap.size v' I ∧ Below w.heap.size w w' := by
  obtain ⟨a, cap, rfl⟩ := r.form
  have R : Hid (Rd encLi w (.slice a I.length cap) I) := r
  clear r
  have k1 : Hid True := trivial
  have k2 : Hid True := trivial
  have k3 : Hid True := trivial
  go_enter Try.func11, Try.ntmps11
  go_wp2_with (first | (refine wpList_box_v rfl 24 _ rfl [.slice a I.length cap, .int .i64 X] rfl ?_; intro b1 w1 hb1 hw1 hB1 V1; have hz1 := hB1.size) | (clear k1; refine wpList_alloc_v rfl 31 rfl _ zeroBk ?_; intro b2 w2 hb2 hw2 hB2 V2; have hz2 := hB2.size; have V1b := vblk_grow V1 hB2) | (clear k2; refine wpList_alloc_v rfl 31 rfl _ zeroBk ?_; intro b3 w3 hb3 hw3 hB3 V3; have hz3 := hB3.size; have V1c := vblk_grow V1b hB3; have V2c := vblk_grow V2 hB3; have hB13 : Below w.heap.size w w3 := (hB1.trans (hB2.mono hz1)).trans (hB3.mono (by omega)); obtain ⟨c0, c1⟩ := cells2 V1c) | (go_at_call 33; refine (toItems_any I _ _ (R.out.grow hB13) hl).mono ?_; rintro e w4 ⟨v4, rfl, o4, hB4⟩; obtain ⟨a4, n4, c4, rfl⟩ := o4.slice; have V1d := vblk_grow V1c hB4; have V2d := vblk_grow V2c hB4; have V3d := vblk_grow V3 hB4; have hz4 := hB4.size) | (clear k3; refine wpList_store_cell rfl 29 _ _ rfl b3 0 (.slice a4 n4 c4) rfl rfl rfl szL1 V3d (by simp) ?_; intro w5 hO5 V5; have V1e := vblk_only V1d hO5 (by have := V1b.lt; omega); have V2e := vblk_only V2d hO5 (by have := V2.lt; omega); have o5 := o4.only hO5 V3d (by decide); obtain ⟨d0, d1⟩ := cells2 V1e) | (refine wpList_store_cell rfl 2 _ _ rfl b3 1 (.int .i64 X) rfl rfl rfl szI1 V5 (by simp) ?_; intro w6 hO6 V6; have V2f := vblk_only V2e hO6 (by have := V2.lt; omega); have o6 := o5.only hO6 V5 (by decide)) | (refine wpList_load_r rfl 31 _ rfl b3 0 [.slice a4 n4 c4, .int .i64 X] rfl _ Try.underlying31 rfl sizeBk V6.range ?_) | (refine wpList_store_v rfl 31 _ _ rfl b2 [.slice a4 n4 c4, .int .i64 X] rfl rfl sizeBk V2f rfl (oneBk _ _ _ _) ?_; intro w7 hO7 V7) | (fail))
  exact row_retv rfl rfl V7 Try.underlying31 sizeBk rfl ⟨_, rfl, ((o6.only hO7 V2f (by decide)).wide (by have := hB13.size; omega) (Nat.le_refl _)).top, (((hB13.trans (hB4.mono hB13.size)).trans (hO5.2.2 _ (by omega))).trans (hO6.2.2 _ (by omega))).trans (hO7.2.2 _ (by omega))⟩
theorem eqBook_any (I : List It) (X : Int) (v v' : Value) (w : World) (r : Rd encIt w v I) (r' : Rd encIt w v' I) :
    Calls Try.prog 14 #[.agg #[v, .int .i64 X], .agg #[v', .int .i64 X]] w fun e w' => e = .returned (.bool true) ∧ Below w.heap.size w w' := by
  obtain ⟨a, cap, rfl⟩ := r.form
  obtain ⟨a', cap', rfl⟩ := r'.form
  have R : Hid (Rd encIt w (.slice a I.length cap) I) := r
  have R' : Hid (Rd encIt w (.slice a' I.length cap') I) := r'
  clear r r'
  have hxx : (X != X) = false := by simp
  have k1 : Hid True := trivial
  go_enter Try.func14, Try.ntmps14
  go_wp2_with (first | (clear k1; refine wpList_box_v rfl 31 _ rfl [.slice a I.length cap, .int .i64 X] rfl ?_; intro b1 w1 hb1 hw1 hB1 V1; have hz1 := hB1.size) | (refine wpList_box_v rfl 31 _ rfl [.slice a' I.length cap', .int .i64 X] rfl ?_; intro b2 w2 hb2 hw2 hB2 V2; have hz2 := hB2.size; have V1b := vblk_grow V1 hB2; obtain ⟨c0, c1⟩ := cells2 V1b; obtain ⟨d0, d1⟩ := cells2 V2; have hB12 : Below w.heap.size w w2 := hB1.trans (hB2.mono hz1)) | (go_at_call 35; refine (eqItems_any I _ _ _ (R.out.grow hB12) (R'.out.grow hB12)).mono ?_; rintro e w3 ⟨rfl, hB3⟩; obtain ⟨f0, f1⟩ := cells2 (vblk_grow V1b hB3); obtain ⟨g0, g1⟩ := cells2 (vblk_grow V2 hB3)) | (fail))
  go_ret
  exact ⟨rfl, hB12.trans (hB3.mono hB12.size)⟩
theorem markBook_any (I : List It) (X : Int) (v : Value) (lo hi : Nat) (k : Nat) (hk : 1 ≤ k) (hk2 : k + 5 * I.length ≤ 16000000) (mm : Nat) (hmm : mm = k + 5 * I.length) (w : World) (own : Own encIt w lo hi v I) (hlo : lo ≤ w.heap.size) :
    Calls Try.prog 15 #[.agg #[v, .int .i64 X], .int .i64 k] w fun e w' => e = .returned (.int .i64 mm) ∧ Own encIt w' lo hi v (mksIt k I.length) ∧ Within lo hi w w' ∧ Ty lo encIt.t w w' := by
  obtain ⟨a, n, cap, rfl⟩ := own.slice
  have O : Hid (Own encIt w lo hi (.slice a n cap) I) := own
  have HM : Hid (mm = k + 5 * I.length) := hmm
  clear own hmm
  go_enter Try.func15, Try.ntmps15
  go_wp2_with (first | (refine wpList_box_v rfl 31 _ rfl [.slice a n cap, .int .i64 X] rfl ?_; intro b1 w1 hb1 hw1 hB1 V1; obtain ⟨c0, c1⟩ := cells2 V1; have hz1 := hB1.size) | (go_at_call 36; refine (markIts_any I _ lo hi k hk hk2 mm HM.out _ (O.out.grow hB1) (by omega)).mono ?_; rintro e w2 ⟨rfl, o2, hW2, hT2⟩) | (fail))
  go_ret
  exact ⟨rfl, o2, (Within.of_below hB1 (Nat.le_refl _)).trans hW2, (Ty.of_below hB1 hlo).trans hT2⟩
theorem heldBook_any (n : Nat) (X : Int) (v : Value) (k : Nat) (hk : 1 ≤ k) (hk2 : k + 5 * n ≤ 16000000) (mm : Nat) (hmm : mm = k + 5 * n) (w : World) (r : Rd encIt w v (mksIt k n)) :
    Calls Try.prog 16 #[.agg #[v, .int .i64 X], .int .i64 k] w fun e w' => e = .returned (.int .i64 mm) ∧ Below w.heap.size w w' := by
  obtain ⟨a, cap, rfl⟩ := r.form
  have R : Hid (Rd encIt w (.slice a (mksIt k n).length cap) (mksIt k n)) := r
  have HM : Hid (mm = k + 5 * n) := hmm
  have hm0 : ¬ (mm : Int) < 0 := by omega
  clear r hmm
  obtain ⟨ln, hln⟩ := hid_ex (mksIt k n).length
  rw [hln.out] at R ⊢
  go_enter Try.func16, Try.ntmps16
  go_wp2_with (first | (refine wpList_box_v rfl 31 _ rfl [.slice a ln cap, .int .i64 X] rfl ?_; intro b1 w1 hb1 hw1 hB1 V1; obtain ⟨c0, c1⟩ := cells2 V1; have hz1 := hB1.size) | (go_at_call 46; refine (heldIts_any n _ k hk hk2 mm HM.out _ (R.out.grow hB1)).mono ?_; rintro e w2 ⟨rfl, hB2⟩) | (fail))
  go_ret
  exact ⟨rfl, hB1.trans (hB2.mono hz1)⟩
theorem cellsLBk : Try.prog.cellsOf 24 = 2 := by kernel_rfl
theorem cellsLis : Try.prog.cellsOf 22 = 1 := by kernel_rfl
set_option maxRecDepth 100000 in
theorem open_book {H : Type} {enc : TypeId × Value → H} {W : World} {r : Reach} {b0 : Nat} {v : Value} {d : DataW H} {p : List MemPlace} (hw : Value.okWide Try.prog W r b0 24 v) (h : DataW.Trod enc Try.prog W 0 (fun _ => true) true 24 v d p) :
    ∃ u I X, v = .agg #[u, .int .i64 X] ∧ Rd encLi W u I ∧ Lo I := by
  obtain ⟨cs, rfl, hsz⟩ := okWide_struct Try.underlying24 hw
  obtain ⟨m, hm⟩ := h
  have hm' : DataW.trod enc Try.prog W 0 (fun _ => true) true m 24 cs.toList = some (d, p) := by simpa [Value.cells] using hm
  obtain ⟨xs, m', -, -, hl, hxs, hf⟩ := DataW.trod_struct Try.underlying24 hm'
  rw [cellsLBk] at hl
  have e : ∃ v0 v1, cs.toList = [v0, v1] := by
    match cs.toList, hl with
    | [v0, v1], _ => exact ⟨v0, v1, rfl⟩
  obtain ⟨v0, v1, e⟩ := e
  rw [e] at hf
  match xs, hxs with
  | [y0, y1], _ =>
    have h0 := hf 0 _ rfl
    have h1 := hf 1 _ rfl
    simp [cellsIntK, cellsLis] at h0 h1
    have : Inhabited It := ⟨It.zero⟩
    obtain ⟨L, rL, sL⟩ := rd_of_trodK encLi (fun i => i.N.size ≤ 9223372036854775807 ∧ i.B.size ≤ 9223372036854775807) Try.underlying22 cellsLi (fun m cs y hy => ic_of_trod hy) h0
    obtain ⟨n, e0, -, -⟩ := DataW.trod_int Try.underlying2 h1
    simp at e0
    subst e0
    refine ⟨v0, L, n, ?_, rL, sL⟩
    have e2 : cs = #[v0, .int .i64 n] := by rw [← Array.toArray_toList (xs := cs), e]
    rw [e2]
end Go.Proofs.Ytekladbkhplchaa.rg
