/- Contracts of the laws' helpers on splits: sizes, copies, comparisons, marks; a split among the arguments. -/
import Derived.Test.YtbialeffdpmcjaaSz2
import Derived.Test.YtbialeffdpmcjaaIn4
namespace Go.Proofs.Ytbialeffdpmcjaa.sx
open Go.ChangeShapes Go.WideShapes Go.ChangeAt Go.RowKit
open Go.Deep Go.Joins
open Go.Proofs.Ytbialeffdpmcjaa.ce
set_option linter.unusedVariables false

theorem szInts (a : Option Addr) (n c : Nat) (hn : n ≤ 9223372036854775807) (w : World) :
    Calls Try.prog 45 #[.slice a n c, .int .i64 1048576] w fun e w' => ∃ r : Int, e = .returned (.int .i64 r) ∧ w' = w ∧ (0 ≤ r → n ≤ 1048576) := by
  by_cases h : (n : Int) ≤ 1048576
  · have e : Hid (wrap64 (1048576 - (n : Int)) = 1048576 - n) := IntWalk.wrap64_in _ ⟨by omega, by omega⟩
    go_enter Try.func45, Try.ntmps45
    go_wp2
    go_ret
    exact ⟨_, rfl, rfl, fun _ => by omega⟩
  · go_enter Try.func45, Try.ntmps45
    go_wp2
    go_ret
    exact ⟨-1, rfl, rfl, fun _ => by omega⟩

set_option maxRecDepth 100000 in
set_option maxHeartbeats 2000000 in
theorem szSplit_any (n : Int) (ks : List Int) (v : Value) (hi : Nat) (w : World) (r : RdI w hi v ks) :
    Calls Try.prog 12 #[.agg #[.int .i64 n, v], .int .i64 1048576] w fun e w' => ∃ r : Int, e = .returned (.int .i64 r) ∧ Below w.heap.size w w' ∧ (0 ≤ r → ks.length ≤ 1048576) := by
  have hl := r.len
  obtain ⟨a, cap, rfl⟩ := r.form
  have R : Hid (RdI w hi (.slice a ks.length cap) ks) := r
  clear r
  go_enter Try.func12, Try.ntmps12
  have mk1 : Hid True := trivial
  have mk2 : Hid True := trivial
  go_wp2_with (first | (clear mk1; refine wpList_box_v rfl 24 _ rfl [.int .i64 n, .slice a ks.length cap] rfl ?_; intro b2 w1 hb2 hwb2 hB1 hVb2; have hz1 : w.heap.size ≤ w1.heap.size := hB1.size; have hB := hB1; have hzw := hB.size; have c2 : SV w1 b2 24 (.int .i64 n) (.slice a ks.length cap) := ⟨hVb2⟩; clear hVb2; obtain ⟨c20, c21⟩ := c2.cells) | (clear mk2; go_at_call 45; refine (szInts _ _ _ hl _).mono ?_; rintro er wq ⟨r, rfl, hq, hr⟩; subst wq; by_cases hneg : r < 0) | (fail))
  · go_ret
    exact ⟨-1, rfl, hB, fun q => by omega⟩
  · go_ret
    exact ⟨r, rfl, hB, fun q => hr q⟩

set_option maxRecDepth 100000 in
set_option maxHeartbeats 2000000 in
theorem toSplit_any (n : Int) (ks : List Int) (v : Value) (hi : Nat) (w : World) (hh : hi ≤ w.heap.size) (r : RdI w hi v ks) (hlen : ks.length ≤ 1048576) :
    Calls Try.prog 14 #[.agg #[.int .i64 n, v]] w fun e w' => ∃ v', e = .returned (.agg #[.int .i64 n, v']) ∧ OwnI w' w.heap.size w'.heap.size v' ks ∧ Below w.heap.size w w' := by
  have hl := r.len
  obtain ⟨a, cap, rfl⟩ := r.form
  have R : Hid (RdI w hi (.slice a ks.length cap) ks) := r
  clear r
  go_enter Try.func14, Try.ntmps14
  have mk1 : Hid True := trivial
  have mk2 : Hid True := trivial
  have mk3 : Hid True := trivial
  have mk4 : Hid True := trivial
  have mk5 : Hid True := trivial
  have mk6 : Hid True := trivial
  have mk7 : Hid True := trivial
  go_wp2_with (first | (clear mk1; refine wpList_box_v rfl 24 _ rfl [.int .i64 n, .slice a ks.length cap] rfl ?_; intro b1 w1 hb1 hwb1 hB1 hVb1; have hz1 : w.heap.size ≤ w1.heap.size := hB1.size; have hB := hB1; have hzw := hB.size; have c1 : SV w1 b1 24 (.int .i64 n) (.slice a ks.length cap) := ⟨hVb1⟩; clear hVb1; obtain ⟨c10, c11⟩ := c1.cells) | (clear mk2; refine wpList_alloc_v rfl 27 rfl _ zeroSp ?_; intro b2 w2 hb2 hwb2 hB2 hVb2; have hz2 : w1.heap.size ≤ w2.heap.size := hB2.size; replace c1 := c1.below hB2 (by omega); replace hB := hB.trans (hB2.mono (by omega)); replace hzw := hB.size; clear c10 c11; obtain ⟨c10, c11⟩ := c1.cells; have c2 : SV w2 b2 27 (.int .i64 0) (.slice none 0 0) := ⟨hVb2⟩; clear hVb2; obtain ⟨c20, c21⟩ := c2.cells) | (clear mk3; refine wpList_alloc_v rfl 27 rfl _ zeroSp ?_; intro b3 w3 hb3 hwb3 hB3 hVb3; have hz3 : w2.heap.size ≤ w3.heap.size := hB3.size; replace c1 := c1.below hB3 (by omega); replace c2 := c2.below hB3 (by omega); replace hB := hB.trans (hB3.mono (by omega)); replace hzw := hB.size; clear c10 c11; obtain ⟨c10, c11⟩ := c1.cells; clear c20 c21; obtain ⟨c20, c21⟩ := c2.cells; have c3 : SV w3 b3 27 (.int .i64 0) (.slice none 0 0) := ⟨hVb3⟩; clear hVb3; obtain ⟨c30, c31⟩ := c3.cells) | (clear mk4; refine wpList_store_n rfl _ _ rfl b3 0 n rfl rfl c3.blk (by simp) ?_; intro w4 hO4 hVb3; have hz4 : w3.heap.size ≤ w4.heap.size := (Nat.le_of_eq hO4.1.symm); replace c1 := c1.keep (w' := w4) (fun k g1 g2 => hO4.2.1 k (by omega)); replace c2 := c2.keep (w' := w4) (fun k g1 g2 => hO4.2.1 k (by omega)); replace hB := hB.trans (hO4.2.2 _ (by omega)); replace hzw := hB.size; clear c10 c11; obtain ⟨c10, c11⟩ := c1.cells; clear c20 c21; obtain ⟨c20, c21⟩ := c2.cells; replace c3 : SV w4 b3 27 (.int .i64 n) (.slice none 0 0) := ⟨hVb3⟩; clear c30 c31; obtain ⟨c30, c31⟩ := c3.cells) | (clear mk5; go_at_call 48; refine (toInts_any ks _ hi _ (by omega) (R.out.below hB hh) hlen).mono ?_; rintro er w5 ⟨v5, rfl, ot, hB5⟩; have hz5 : w4.heap.size ≤ w5.heap.size := hB5.size; replace c1 := c1.below hB5 (by omega); replace c2 := c2.below hB5 (by omega); replace c3 := c3.below hB5 (by omega); replace hB := hB.trans (hB5.mono (by omega)); replace hzw := hB.size; clear c10 c11; obtain ⟨c10, c11⟩ := c1.cells; clear c20 c21; obtain ⟨c20, c21⟩ := c2.cells; clear c30 c31; obtain ⟨c30, c31⟩ := c3.cells; obtain ⟨ax, nx, kx, rfl⟩ := own_slice ot) | (clear mk6; refine wpList_store_k rfl _ _ rfl b3 1 ax nx kx rfl rfl c3.blk (by simp) ?_; intro w6 hO6 hVb3; have hz6 : w5.heap.size ≤ w6.heap.size := (Nat.le_of_eq hO6.1.symm); replace ot := ot.keep (w' := w6) (fun k g1 g2 => hO6.2.1 k (by omega)); replace c1 := c1.keep (w' := w6) (fun k g1 g2 => hO6.2.1 k (by omega)); replace c2 := c2.keep (w' := w6) (fun k g1 g2 => hO6.2.1 k (by omega)); replace hB := hB.trans (hO6.2.2 _ (by omega)); replace hzw := hB.size; clear c10 c11; obtain ⟨c10, c11⟩ := c1.cells; clear c20 c21; obtain ⟨c20, c21⟩ := c2.cells; replace c3 : SV w6 b3 27 (.int .i64 n) (.slice ax nx kx) := ⟨hVb3⟩; clear c30 c31; obtain ⟨c30, c31⟩ := c3.cells) | (clear mk7; refine wpList_store_v rfl 27 _ _ rfl b2 [.int .i64 n, .slice ax nx kx] rfl rfl sizeSp c2.blk rfl (by simp [Value.oneCell']) ?_; intro w7 hO7 hVb2; have hz7 : w6.heap.size ≤ w7.heap.size := (Nat.le_of_eq hO7.1.symm); replace ot := ot.keep (w' := w7) (fun k g1 g2 => hO7.2.1 k (by omega)); replace c1 := c1.keep (w' := w7) (fun k g1 g2 => hO7.2.1 k (by omega)); replace c3 := c3.keep (w' := w7) (fun k g1 g2 => hO7.2.1 k (by omega)); replace hB := hB.trans (hO7.2.2 _ (by omega)); replace hzw := hB.size; clear c10 c11; obtain ⟨c10, c11⟩ := c1.cells; clear c30 c31; obtain ⟨c30, c31⟩ := c3.cells; replace c2 : SV w7 b2 27 (.int .i64 n) (.slice ax nx kx) := ⟨hVb2⟩; clear hVb2; clear c20 c21; obtain ⟨c20, c21⟩ := c2.cells) | (fail))
  exact row_retv rfl rfl c2.blk Try.underlying27 sizeSp rfl ⟨_, rfl, ot.wide (by omega) (by omega), hB⟩

set_option maxRecDepth 100000 in
set_option maxHeartbeats 2000000 in
theorem eqSplit_any (n : Int) (ks : List Int) (v v' : Value) (hi hi' : Nat) (w : World) (hh : hi ≤ w.heap.size) (hh' : hi' ≤ w.heap.size) (r : RdI w hi v ks) (r' : RdI w hi' v' ks) :
    Calls Try.prog 16 #[.agg #[.int .i64 n, v], .agg #[.int .i64 n, v']] w fun e w' => e = .returned (.bool true) ∧ Below w.heap.size w w' := by
  have hl := r.len
  obtain ⟨a, cap, rfl⟩ := r.form
  have R : Hid (RdI w hi (.slice a ks.length cap) ks) := r
  clear r
  obtain ⟨a', cap', rfl⟩ := r'.form
  have R' : Hid (RdI w hi' (.slice a' ks.length cap') ks) := r'
  clear r'
  go_enter Try.func16, Try.ntmps16
  have mk1 : Hid True := trivial
  have mk2 : Hid True := trivial
  have mk3 : Hid True := trivial
  go_wp2_with (first | (clear mk1; refine wpList_box_v rfl 27 _ rfl [.int .i64 n, .slice a ks.length cap] rfl ?_; intro b1 w1 hb1 hwb1 hB1 hVb1; have hz1 : w.heap.size ≤ w1.heap.size := hB1.size; have hB := hB1; have hzw := hB.size; have c1 : SV w1 b1 27 (.int .i64 n) (.slice a ks.length cap) := ⟨hVb1⟩; clear hVb1; obtain ⟨c10, c11⟩ := c1.cells) | (clear mk2; refine wpList_box_v rfl 27 _ rfl [.int .i64 n, .slice a' ks.length cap'] rfl ?_; intro b2 w2 hb2 hwb2 hB2 hVb2; have hz2 : w1.heap.size ≤ w2.heap.size := hB2.size; replace c1 := c1.below hB2 (by omega); replace hB := hB.trans (hB2.mono (by omega)); replace hzw := hB.size; clear c10 c11; obtain ⟨c10, c11⟩ := c1.cells; have c2 : SV w2 b2 27 (.int .i64 n) (.slice a' ks.length cap') := ⟨hVb2⟩; clear hVb2; obtain ⟨c20, c21⟩ := c2.cells) | (clear mk3; go_at_call 29; refine (eqInts_any ks _ _ hi hi' _ (by omega) (by omega) (R.out.below hB hh) (R'.out.below hB hh')).mono ?_; rintro er w3 ⟨rfl, hB3⟩; have hz3 : w2.heap.size ≤ w3.heap.size := hB3.size; replace c1 := c1.below hB3 (by omega); replace c2 := c2.below hB3 (by omega); replace hB := hB.trans (hB3.mono (by omega)); replace hzw := hB.size; clear c10 c11; obtain ⟨c10, c11⟩ := c1.cells; clear c20 c21; obtain ⟨c20, c21⟩ := c2.cells) | (fail))
  go_ret
  exact ⟨rfl, hB⟩

set_option maxRecDepth 100000 in
set_option maxHeartbeats 2000000 in
theorem markSplit_any (n : Int) (ks : List Int) (v : Value) (lo hi : Nat) (w : World) (hh : hi ≤ w.heap.size) (o : OwnI w lo hi v ks) (hlen : ks.length ≤ 1048576) :
    Calls Try.prog 19 #[.agg #[.int .i64 n, v], .int .i64 1] w fun e w' => e = .returned (.int .i64 (1 + (ks.length : Int))) ∧ OwnI w' lo hi v (imarks 1 ks.length) ∧ Within lo hi w w' := by
  obtain ⟨a, m, cap, rfl⟩ := own_slice o
  have O : Hid (OwnI w lo hi (.slice a m cap) ks) := o
  clear o
  go_enter Try.func19, Try.ntmps19
  go_wp2_with (first | (refine wpList_box_v rfl 27 _ rfl [.int .i64 n, .slice a m cap] rfl ?_; intro b1 w1 hb1 hw1 hB1 hV1; have hz1 := hB1.size; obtain ⟨c0, c1⟩ := sp_cells hV1) | (go_at_call 30; refine (markInts_any ks _ lo hi _ (O.out.below hB1 hh) hlen).mono ?_; rintro er w2 ⟨rfl, o2, hW2⟩) | (fail))
  go_ret
  exact ⟨rfl, o2, (Within.of_below hB1 (Nat.le_refl _)).trans hW2⟩

set_option maxRecDepth 100000 in
set_option maxHeartbeats 2000000 in
theorem heldSplit_any (n : Int) (k : Nat) (v : Value) (hi : Nat) (w : World) (hh : hi ≤ w.heap.size) (r : RdI w hi v (imarks 1 k)) (hk : k ≤ 1048576) :
    Calls Try.prog 20 #[.agg #[.int .i64 n, v], .int .i64 1] w fun e w' => e = .returned (.int .i64 (1 + (k : Int))) ∧ Below w.heap.size w w' := by
  obtain ⟨a, cap, e⟩ := r.form
  obtain ⟨m, hm⟩ := hid_ex ((imarks 1 k).length)
  rw [hm.out] at e
  subst e
  have R : Hid (RdI w hi (.slice a m cap) (imarks 1 k)) := r
  clear r
  have hs1 : ¬ (1 + (k : Int) < 0) := by omega
  go_enter Try.func20, Try.ntmps20
  go_wp2_with (first | (refine wpList_box_v rfl 27 _ rfl [.int .i64 n, .slice a m cap] rfl ?_; intro b1 w1 hb1 hw1 hB1 hV1; have hz1 := hB1.size; obtain ⟨c0, c1⟩ := sp_cells hV1) | (go_at_call 31; refine (heldInts_any k _ hi _ (R.out.below hB1 hh) hk).mono ?_; rintro er wq ⟨rfl, hq⟩; subst wq) | (fail))
  go_ret
  exact ⟨rfl, hB1⟩

-- RDIB
theorem rdib_of_trod {H : Type} {enc : TypeId × Value → H} {w : World} {n : Nat} {v : Value} {x : DataW H × List MemPlace} (h : DataW.trod enc Try.prog w 0 (fun _ => true) true n 22 [v] = some x) : ∃ L, RdI w w.heap.size v L ∧ ∀ k ∈ L, k ≤ 9223372036854775807 := by
  rcases open_slice Try.underlying22 h with ⟨hcs, -⟩ | ⟨a, len, cap, m, n', D, Pl, hcs, -, hl, hm, hmm, -, hrow⟩
  · obtain rfl : v = .slice none 0 0 := by simpa using hcs
    exact ⟨[], ⟨none, 0, rfl, Nat.le_refl _, Nat.zero_le _, fun h => absurd rfl h⟩, fun k hk => by simp at hk⟩
  · obtain rfl : v = .slice (some a) len cap := by simpa using hcs
    rw [cellsI] at hrow
    have hlm : len ≤ m := by rw [hmm]; simp; exact hl
    have hex : ∀ i, i < len → ∃ c : Int, w.cells? 0 (a.add (i * 1)) 1 = some [.int .i64 c] ∧ c ≤ 9223372036854775807 := fun i hi => by
      obtain ⟨cs', h1, h2⟩ := hrow i (by omega)
      obtain ⟨k, e0, -, hwf⟩ := DataW.trod_int Try.underlying2 h2
      rw [e0] at h1
      exact ⟨k, h1, (bounds_i64 hwf).2⟩
    obtain ⟨F, hF⟩ := choose_lt hex
    refine ⟨(List.range len).map F, ⟨some a, cap, by simp, by simpa using hl, hm, fun hn => ?_⟩, fun k hk => ?_⟩
    rotate_left
    · obtain ⟨i, hi, rfl⟩ := List.mem_map.1 hk
      exact (hF i (by simpa using hi)).2
    have h0 : 0 < len := by
      rcases Nat.eq_zero_or_pos len with e | e
      · subst e; exact absurd rfl hn
      · exact e
    have hc : ∀ i, i < len → w.cell? (a.add i) = some (.int .i64 (F i)) := fun i hi => by
      obtain ⟨h1, h2, h3⟩ := World.cells?_some (hF i hi).1
      have := h3 0 (by omega)
      rw [Nat.mul_one] at this
      have e : (a.add i).add 0 = a.add i := by obtain ⟨b, o, s⟩ := a; cases s <;> simp [Addr.add]
      rw [e] at this
      exact this
    have hspot : a.spot = none := by
      have h5 : (a.add 0).spot = none := World.cell?_spot (hc 0 h0)
      obtain ⟨b, o, s⟩ := a
      cases s with
      | none => rfl
      | some s => simp [Addr.add] at h5
    have hlt : a.block < w.heap.size := by
      have := hc 0 h0
      rw [add_none hspot] at this
      exact World.block_lt_of_cell? w ⟨a.block, a.off + 0, none⟩ this
    refine ⟨a.block, a.off, by obtain ⟨b, o, s⟩ := a; simp at hspot; subst hspot; rfl, hlt, fun k u hk => ?_⟩
    have hkl : k < len := by
      have := (List.getElem?_eq_some_iff.1 hk).1
      rw [ivs_len] at this
      simpa using this
    rw [ivs_get _ k (by simpa using hkl)] at hk
    have := hc k hkl
    rw [add_none hspot] at this
    rw [this]
    simpa using hk
-- END

theorem cellsLSp : Try.prog.cellsOf 24 = 2 := by kernel_rfl
theorem cellsIs : Try.prog.cellsOf 22 = 1 := by kernel_rfl
set_option maxRecDepth 100000 in
/-- a split among the arguments -/
theorem open_split {H : Type} {enc : TypeId × Value → H} {W : World} {r : Reach} {b0 : Nat} {v : Value} {d : DataW H} {p : List MemPlace} (hw : Value.okWide Try.prog W r b0 24 v) (h : DataW.Trod enc Try.prog W 0 (fun _ => true) true 24 v d p) :
    ∃ n u, v = .agg #[.int .i64 n, u] ∧ ∃ ks, RdI W W.heap.size u ks ∧ ∀ k ∈ ks, k ≤ 9223372036854775807 := by
  obtain ⟨cs, rfl, hsz⟩ := okWide_struct Try.underlying24 hw
  obtain ⟨m, hm⟩ := h
  have hm' : DataW.trod enc Try.prog W 0 (fun _ => true) true m 24 cs.toList = some (d, p) := by simpa [Value.cells] using hm
  obtain ⟨xs, m', -, -, hl, hxs, hf⟩ := DataW.trod_struct Try.underlying24 hm'
  rw [cellsLSp] at hl
  have e : ∃ v0 v1, cs.toList = [v0, v1] := by
    match cs.toList, hl with
    | [v0, v1], _ => exact ⟨v0, v1, rfl⟩
  obtain ⟨v0, v1, e⟩ := e
  rw [e] at hf
  match xs, hxs with
  | [y0, y1], _ =>
    have h0 := hf 0 _ rfl
    have h1 := hf 1 _ rfl
    simp [cellsI, cellsIs] at h0 h1
    obtain ⟨n, e0, -, -⟩ := DataW.trod_int Try.underlying2 h0
    obtain ⟨ks, rK, hK⟩ := rdib_of_trod h1
    simp at e0
    subst e0
    refine ⟨n, v1, ?_, ks, rK, hK⟩
    have e2 : cs = #[.int .i64 n, v1] := by rw [← Array.toArray_toList (xs := cs), e]
    rw [e2]
end Go.Proofs.Ytbialeffdpmcjaa.sx
