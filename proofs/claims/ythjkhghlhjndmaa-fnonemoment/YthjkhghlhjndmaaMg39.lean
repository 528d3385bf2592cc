/- Texts laid together: Bo1 Ih9. -/
import Derived.Test.YthjkhghlhjndmaaCe5
import Derived.Test.YthjkhghlhjndmaaMg07
import Derived.Test.YthjkhghlhjndmaaIh6
import Derived.Deep.MidRow
/- Rows of truths in memory: read, owned, made, stored into. -/
namespace Go.Proofs.Ythjkhghlhjndmaa.ce
open Go.ChangeShapes Go.WideShapes Go.ChangeAt Go.RowKit
set_option linter.unusedVariables false

def bvs (xs : List Bool) : List Value := xs.map (Value.bool)
theorem bvs_len (xs : List Bool) : (bvs xs).length = xs.length := by simp [bvs]
theorem bvs_append (xs ys : List Bool) : bvs (xs ++ ys) = bvs xs ++ bvs ys := by simp [bvs]
theorem bvs_get (xs : List Bool) (i : Nat) (hi : i < xs.length) : (bvs xs)[i]? = some (.bool xs[i]) := by simp [bvs, hi]
theorem bvs_one (xs : List Bool) : ∀ v ∈ bvs xs, v.oneCell' = true := by
  intro v hv
  obtain ⟨x, -, rfl⟩ := List.mem_map.1 hv
  rfl

/-- the truths xs are read at the slice v, in blocks under hi -/
structure RdB (w : World) (hi : Nat) (v : Value) (xs : List Bool) : Prop where
  fits : ∃ a cap, v = .slice a xs.length cap ∧ xs.length ≤ cap ∧ cap ≤ maxLen ∧ (xs ≠ [] → ∃ b off, a = some ⟨b, off, none⟩ ∧ b < hi ∧ w.rangeAt b off (bvs xs))
theorem RdB.keep {w w' : World} {hi : Nat} {v : Value} {xs : List Bool} (r : RdB w hi v xs) (s : ∀ k, k < hi → w'.heap[k]? = w.heap[k]?) : RdB w' hi v xs := by
  obtain ⟨a, cap, e, h1, h2, h3⟩ := r.fits
  refine ⟨a, cap, e, h1, h2, fun hn => ?_⟩
  obtain ⟨b, off, e2, h4, h5⟩ := h3 hn
  exact ⟨b, off, e2, h4, range_of h5 (s b h4)⟩
theorem RdB.below {w w' : World} {hi B : Nat} {v : Value} {xs : List Bool} (r : RdB w hi v xs) (hb : Below B w w') (hB : hi ≤ B) : RdB w' hi v xs := r.keep fun k hk => hb.block k (by omega)
theorem RdB.drew {w : World} {hi : Nat} {v : Value} {xs : List Bool} (r : RdB w hi v xs) : RdB w.drew hi v xs := r.keep fun k hk => rfl
theorem RdB.drewN {w : World} {hi : Nat} {v : Value} {xs : List Bool} (r : RdB w hi v xs) (n : Nat) : RdB (w.drewN n) hi v xs := r.keep fun k hk => rfl
theorem RdB.wide {w : World} {hi hi' : Nat} {v : Value} {xs : List Bool} (r : RdB w hi v xs) (hh : hi ≤ hi') : RdB w hi' v xs := by
  obtain ⟨a, cap, e, h1, h2, h3⟩ := r.fits
  refine ⟨a, cap, e, h1, h2, fun hn => ?_⟩
  obtain ⟨b, off, e2, h4, h5⟩ := h3 hn
  exact ⟨b, off, e2, by omega, h5⟩
theorem RdB.form {w : World} {hi : Nat} {v : Value} {xs : List Bool} (r : RdB w hi v xs) : ∃ a cap, v = .slice a xs.length cap := by
  obtain ⟨a, cap, e, -⟩ := r.fits
  exact ⟨a, cap, e⟩
theorem RdB.len {w : World} {hi : Nat} {v : Value} {xs : List Bool} (r : RdB w hi v xs) : xs.length ≤ 9223372036854775807 := by
  obtain ⟨a, cap, e, h1, h2, h3⟩ := r.fits
  unfold maxLen at h2; omega
theorem RdB.cell {w : World} {hi n cap : Nat} {a : Option Addr} {xs : List Bool} (r : RdB w hi (.slice a n cap) xs) (i : Nat) (hi' : i < xs.length) : ∃ b off, a = some ⟨b, off, none⟩ ∧ b < hi ∧ w.cell? ⟨b, off + i, none⟩ = some (.bool xs[i]) := by
  obtain ⟨a', cap', e, h1, h2, h3⟩ := r.fits
  cases e
  obtain ⟨b, off, rfl, h4, h5⟩ := h3 (by intro e; subst e; simp at hi')
  exact ⟨b, off, rfl, h4, h5 i _ (bvs_get xs i hi')⟩

/-- the truths xs lie in a row of their own in a block from lo up to hi -/
structure OwnB (w : World) (lo hi : Nat) (v : Value) (xs : List Bool) : Prop where
  row : w.ownsRow lo 4 1 v xs.length (bvs xs)
  top : ∀ g, v.ownBlock = some g → g < hi
theorem OwnB.keep {w w' : World} {lo hi : Nat} {v : Value} {xs : List Bool} (o : OwnB w lo hi v xs) (s : ∀ k, lo ≤ k → k < hi → w'.heap[k]? = w.heap[k]?) : OwnB w' lo hi v xs := by
  refine ⟨⟨o.row.1, ?_⟩, o.top⟩
  rcases o.row.2 with h | ⟨g, cap, cur, rfl, hg, hb, h⟩
  · exact .inl h
  · exact .inr ⟨g, cap, cur, rfl, hg, by rw [s g hg (o.top g rfl)]; exact hb, h⟩
theorem OwnB.below {w w' : World} {lo hi B : Nat} {v : Value} {xs : List Bool} (o : OwnB w lo hi v xs) (hb : Below B w w') (hB : hi ≤ B) : OwnB w' lo hi v xs := o.keep fun k _ h2 => hb.block k (by omega)
theorem OwnB.wide {w : World} {lo hi lo' hi' : Nat} {v : Value} {xs : List Bool} (o : OwnB w lo hi v xs) (h1 : lo' ≤ lo) (h2 : hi ≤ hi') : OwnB w lo' hi' v xs := by
  refine ⟨⟨o.row.1, ?_⟩, fun g hg => by have := o.top g hg; omega⟩
  rcases o.row.2 with h | ⟨g, cap, cur, rfl, hg, hb, h⟩
  · exact .inl h
  · exact .inr ⟨g, cap, cur, rfl, by omega, hb, h⟩
theorem OwnB.form {w : World} {lo hi : Nat} {v : Value} {xs : List Bool} (o : OwnB w lo hi v xs) (hn : 1 ≤ xs.length) :
    ∃ g cap, v = .slice (some ⟨g, 0, none⟩) xs.length cap ∧ lo ≤ g ∧ g < hi ∧ g < w.heap.size := by
  rcases o.row.2 with ⟨_, h0⟩ | ⟨g, cap, cur, rfl, hg, hb, hc1, hc2, hc3, htk⟩
  · omega
  · exact ⟨g, cap, rfl, hg, o.top g rfl, (Array.getElem?_eq_some_iff.1 hb).1⟩
theorem OwnB.rd {w : World} {lo hi : Nat} {v : Value} {xs : List Bool} (o : OwnB w lo hi v xs) : RdB w hi v xs := by
  rcases o.row.2 with ⟨rfl, h0⟩ | ⟨g, cap, cur, rfl, hg, hb, hc1, hc2, hc3, htk⟩
  · have e := List.eq_nil_of_length_eq_zero h0
    subst e
    exact ⟨none, 0, rfl, Nat.le_refl _, Nat.zero_le _, fun h => absurd rfl h⟩
  · refine ⟨some ⟨g, 0, none⟩, cap, rfl, hc1, hc2, fun _ => ⟨g, 0, rfl, o.top g rfl, fun j u hj => ?_⟩⟩
    rw [cell_of_row _ _ _ _ _ _ hb]
    rw [← htk, List.getElem?_take] at hj
    split at hj
    · simpa using hj
    · cases hj
theorem ownB_none (w : World) (lo hi : Nat) : OwnB w lo hi (.slice none 0 0) [] := ⟨World.ownsRow_nil w lo _ 1, fun g h => by cases h⟩
theorem ownB_empty (w : World) : OwnB (w.alloc (.cells #[] 4)) w.heap.size (w.heap.size + 1) (.slice (some ⟨w.heap.size, 0, none⟩) 0 0) [] :=
  ⟨⟨rfl, .inr ⟨w.heap.size, 0, #[], rfl, Nat.le_refl _, heap_alloc_new _ _, Nat.le_refl _, by unfold maxLen; omega, rfl, rfl⟩⟩, fun g hg => by cases hg; exact Nat.lt_succ_self _⟩
theorem OwnB.len {w : World} {lo hi n cap : Nat} {a : Option Addr} {xs : List Bool} (o : OwnB w lo hi (.slice a n cap) xs) : n = xs.length := by
  rcases o.row.2 with ⟨e, h0⟩ | ⟨g, cap', cur, e, -⟩
  · cases e; omega
  · cases e; rfl
theorem OwnB.set {w : World} {lo hi g n cap : Nat} {xs : List Bool} (o : OwnB w lo hi (.slice (some ⟨g, 0, none⟩) n cap) xs) (i : Nat) (x : Bool) :
    OwnB (w.setCell ⟨g, i, none⟩ (.bool x)) lo hi (.slice (some ⟨g, 0, none⟩) n cap) (xs.set i x) := by
  have e := o.len
  subst e
  have := (o.row.stored i (.bool x)).1
  rw [show (bvs xs).set i (.bool x) = bvs (xs.set i x) by simp [bvs, List.map_set]] at this
  exact ⟨by rw [List.length_set]; exact this, o.top⟩
theorem OwnB.frozen {w : World} {lo hi g n cap : Nat} {xs : List Bool} (o : OwnB w lo hi (.slice (some ⟨g, 0, none⟩) n cap) xs) (j : Nat) : w.frozen? ⟨g, j, none⟩ = false := by
  have e := o.len
  subst e
  exact o.row.frozenAt j

theorem infoB : ∃ i : TypeInfo, Try.prog.info? 4 = some i ∧ i.zero = some (.bool false) ∧ i.size = 1 ∧ i.bytes = 1 := by
  have h : (Try.prog.info? 4).map (fun i => (i.zero, i.size, i.bytes)) = some (some (.bool false), 1, 1) := by kernel_rfl
  obtain ⟨i, hi, hz⟩ := Option.map_eq_some_iff.1 h
  simp only [Prod.mk.injEq] at hz
  exact ⟨i, hi, hz.1, hz.2.1, hz.2.2⟩
theorem wpList_make_b {o : Oper} {a : Act} {w : World} {ops : Array Oper} {rest : List Oper} {Q : Exit → Act → World → Prop} (hgd : o.guard = none) (l c : Operand) (t : TypeId) (ho : o.op = .makeSlice t l c) (ht : Try.prog.underlying t = some (.slice 4)) (n : Nat) (hn : n ≤ 1048576) (hl : a.eval l = .int .i64 n) (hc : a.eval c = .int .i64 n)
    (h : ∀ b w', w.heap.size ≤ b → b < w'.heap.size → Below w.heap.size w w' → (∃ X, w'.ownsRow w.heap.size 4 1 (.slice (some ⟨b, 0, none⟩) n n) n X ∧ X = bvs (List.replicate n false)) → wpList Try.prog ops Q rest (a.put o.dst (.slice (some ⟨b, 0, none⟩) n n)) w') : wpList Try.prog ops Q (o :: rest) a w := by
  obtain ⟨i0, hi0, hz0, hz1, hz2⟩ := infoB
  refine wpList_make_full _ hgd l c t ho w.heap.size 4 i0 _ 1 ht hi0 hz0 hz1 .i64 .i64 n n n hl hc rfl rfl (by rw [hz2]; omega) (by unfold maxLen; omega) (Nat.le_refl _) ?_
  intro w1 h1 h2
  have hb : Below w.heap.size w w1 := below_grown h2 (Nat.le_refl _) (fun k hk => by cases hk)
  refine h _ w1 (Nat.le_refl _) (h1.lt _ rfl).2 hb ⟨_, h1, ?_⟩
  simp [bvs, Value.cells, toList_madeCells_one]
end Go.Proofs.Ythjkhghlhjndmaa.ce
/- Contract: the model's NewHand. -/
namespace Go.Proofs.Ythjkhghlhjndmaa.ce
open Go.ChangeShapes Go.WideShapes Go.ChangeAt Go.RowKit
set_option linter.unusedVariables false

theorem ok_c0 : heapOk [c0] := by decide
theorem newB (k x y : Int) : okB [c0] ⟨k, x, y, 0, -1, -1, -1, 0⟩ = asksB k x := by
  cases hz : asksB k x with
  | true => exact (okB_parts ok_c0 rfl).2 ⟨of_decide_eq_true hz, by simp [stepB], by simp [toldB], by simp [leftB], by simp [hereB], by simp [ownB]⟩
  | false => exact okB_no ok_c0 rfl fun q => of_decide_eq_false hz q.asks

set_option maxHeartbeats 1000000 in
theorem specNewHand_any (k x y : Int) (w : World) :
    Calls Try.prog 41 #[.int .i64 k, .int .i64 x, .int .i64 y] w fun e w' => e = .returned (.tuple #[.agg (hv (newD k x y)).toArray, .bool (asksB k x)]) ∧ Below w.heap.size w w' := by
  have m1 : Hid True := trivial
  have m2 : Hid True := trivial
  have F : Hid (okB [c0] ⟨k, x, y, 0, -1, -1, -1, 0⟩ = asksB k x) := newB k x y
  cases hz : asksB k x with
  | true =>
    rw [hz] at F
    rw [show newD k x y = ⟨k, x, y, 0, -1, -1, -1, 0⟩ from if_pos hz]
    clear hz
    go_enter Try.func41, Try.ntmps41
    go_wp2_with (first | (clear m1; refine wpList_alloc_v rfl 58 rfl _ zeroH ?_; intro b6 w1 hb6 hw1 hB1 hV1; have hz1 := hB1.size) | (refine wpList_alloc_v rfl 58 rfl _ zeroH ?_; intro b8 w3 hb8 hw3 hB3 hV3; have hz3 := hB3.size) | (clear m2; refine wpList_store_v rfl 58 _ _ rfl b8 (hv ⟨k, x, y, 0, -1, -1, -1, 0⟩) rfl rfl sizeH hV3 rfl (hv_one _) ?_; intro w4 hO4 hV4; have hz4 := hO4.1; have h8 : HB w4 b8 ⟨k, x, y, 0, -1, -1, -1, 0⟩ := ⟨hV4⟩) | (fail))
    have S0 := h8.drew.cells
    go_region_held3 (fun w' => w'.cell? ⟨b8, 0, none⟩ = some (.int .i64 k) ∧ w'.cell? ⟨b8, 1, none⟩ = some (.int .i64 x) ∧ w'.cell? ⟨b8, 2, none⟩ = some (.int .i64 y) ∧ w'.cell? ⟨b8, 3, none⟩ = some (.int .i64 0) ∧ w'.cell? ⟨b8, 4, none⟩ = some (.int .i64 (-1)) ∧ w'.cell? ⟨b8, 5, none⟩ = some (.int .i64 (-1)) ∧ w'.cell? ⟨b8, 6, none⟩ = some (.int .i64 (-1)) ∧ w'.cell? ⟨b8, 7, none⟩ = some (.int .i64 0)) (first | assumption | exact S0 | (fail)) (first | (go_at_call 51; refine (specNewHeap_any w4.drew).mono ?_; rintro er w5 ⟨v5, rfl, hO5, hB5⟩; have hz5 : w4.heap.size ≤ w5.heap.size := hB5.size; replace h8 := h8.of (w' := w5) (hB5.block b8 (by show b8 < w4.heap.size; omega)); have S5 := h8.cells) | (go_at_call 45; refine (l5Ok_any [c0] ok_c0 ⟨k, x, y, 0, -1, -1, -1, 0⟩ _ w5.heap.size w5 (Nat.le_refl _) hO5.rd).mono ?_; rintro er w6 ⟨he, hB6⟩; rw [F.out] at he; subst he; have hz6 := hB6.size; replace h8 := h8.of (hB6.block b8 (by omega)); have S6 := h8.cells) | (fail))
    obtain ⟨c0', c1', c2', c3', c4', c5', c6', c7'⟩ := h8.cells
    have hB : Below w.heap.size w w6 := ((((hB1.trans (hB3.mono (by omega))).trans (hO4.2.2 _ (by omega))).drew).trans (hB5.mono (by show w.heap.size ≤ w4.heap.size; omega))).trans (hB6.mono (by omega))
    go_wp2_with (first | (refine wpList_store_v rfl 58 _ _ rfl b6 (hv ⟨k, x, y, 0, -1, -1, -1, 0⟩) rfl rfl sizeH ((((hV1.below hB3 (by omega)).of (hO4.2.1 b6 (by omega))).drew.below hB5 (by show b6 < w4.heap.size; omega)).below hB6 (by omega)) rfl (hv_one _) ?_; intro w7 hO7 hV7) | (fail))
    refine row_cell_tmp rfl rfl rfl hV7 Try.underlying58 sizeH rfl ⟨rfl, ?_⟩
    exact (hB.trans (hO7.2.2 _ (by omega)))
  | false =>
    rw [hz] at F
    rw [show newD k x y = ⟨0, 0, 0, 0, 0, 0, 0, 0⟩ from if_neg (by rw [hz]; simp)]
    clear hz
    go_enter Try.func41, Try.ntmps41
    go_wp2_with (first | (clear m1; refine wpList_alloc_v rfl 58 rfl _ zeroH ?_; intro b6 w1 hb6 hw1 hB1 hV1; have hz1 := hB1.size) | (refine wpList_alloc_v rfl 58 rfl _ zeroH ?_; intro b8 w3 hb8 hw3 hB3 hV3; have hz3 := hB3.size) | (clear m2; refine wpList_store_v rfl 58 _ _ rfl b8 (hv ⟨k, x, y, 0, -1, -1, -1, 0⟩) rfl rfl sizeH hV3 rfl (hv_one _) ?_; intro w4 hO4 hV4; have hz4 := hO4.1; have h8 : HB w4 b8 ⟨k, x, y, 0, -1, -1, -1, 0⟩ := ⟨hV4⟩) | (fail))
    have S0 := h8.drew.cells
    go_region_held3 (fun w' => w'.cell? ⟨b8, 0, none⟩ = some (.int .i64 k) ∧ w'.cell? ⟨b8, 1, none⟩ = some (.int .i64 x) ∧ w'.cell? ⟨b8, 2, none⟩ = some (.int .i64 y) ∧ w'.cell? ⟨b8, 3, none⟩ = some (.int .i64 0) ∧ w'.cell? ⟨b8, 4, none⟩ = some (.int .i64 (-1)) ∧ w'.cell? ⟨b8, 5, none⟩ = some (.int .i64 (-1)) ∧ w'.cell? ⟨b8, 6, none⟩ = some (.int .i64 (-1)) ∧ w'.cell? ⟨b8, 7, none⟩ = some (.int .i64 0)) (first | assumption | exact S0 | (fail)) (first | (go_at_call 51; refine (specNewHeap_any w4.drew).mono ?_; rintro er w5 ⟨v5, rfl, hO5, hB5⟩; have hz5 : w4.heap.size ≤ w5.heap.size := hB5.size; replace h8 := h8.of (w' := w5) (hB5.block b8 (by show b8 < w4.heap.size; omega)); have S5 := h8.cells) | (go_at_call 45; refine (l5Ok_any [c0] ok_c0 ⟨k, x, y, 0, -1, -1, -1, 0⟩ _ w5.heap.size w5 (Nat.le_refl _) hO5.rd).mono ?_; rintro er w6 ⟨he, hB6⟩; rw [F.out] at he; subst he; have hz6 := hB6.size; replace h8 := h8.of (hB6.block b8 (by omega)); have S6 := h8.cells) | (fail))
    obtain ⟨c0', c1', c2', c3', c4', c5', c6', c7'⟩ := h8.cells
    have hB : Below w.heap.size w w6 := ((((hB1.trans (hB3.mono (by omega))).trans (hO4.2.2 _ (by omega))).drew).trans (hB5.mono (by show w.heap.size ≤ w4.heap.size; omega))).trans (hB6.mono (by omega))
    go_wp2_with (first | (refine wpList_store_v rfl 58 _ _ rfl b6 (hv ⟨0, 0, 0, 0, 0, 0, 0, 0⟩) rfl rfl sizeH ((((hV1.below hB3 (by omega)).of (hO4.2.1 b6 (by omega))).drew.below hB5 (by show b6 < w4.heap.size; omega)).below hB6 (by omega)) rfl (hv_one _) ?_; intro w7 hO7 hV7) | (fail))
    refine row_cell_tmp rfl rfl rfl hV7 Try.underlying58 sizeH rfl ⟨rfl, ?_⟩
    exact (hB.trans (hO7.2.2 _ (by omega)))
end Go.Proofs.Ythjkhghlhjndmaa.ce
