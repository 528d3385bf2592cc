/- Contract: the model's NewHand. -/
import Derived.Test.YtodpbghkjnlfdaaMg16
import Derived.Test.YtodpbghkjnlfdaaIh6
namespace Go.Proofs.Ytodpbghkjnlfdaa.ce
open Go.ChangeShapes Go.WideShapes Go.ChangeAt Go.RowKit
set_option linter.unusedVariables false

theorem ok_c0 : heapOk [c0] := by decide
theorem newB (k x y : Int) : okB [c0] ⟨k, x, y, 0, -1, -1, -1, 0⟩ = asksB k x := by
  cases hz : asksB k x with
  | true => exact (okB_parts ok_c0 rfl).2 ⟨of_decide_eq_true hz, by simp [stepB], by simp [toldB], by simp [leftB], by simp [hereB], by simp [ownB]⟩
  | false => exact okB_no ok_c0 rfl fun q => of_decide_eq_false hz q.asks

set_option maxHeartbeats 1000000 in
theorem specNewHand_any (k x y : Int) (w : World) :
    Calls Try.prog 15 #[.int .i64 k, .int .i64 x, .int .i64 y] w fun e w' => e = .returned (.tuple #[.agg (hv (newD k x y)).toArray, .bool (asksB k x)]) ∧ Below w.heap.size w w' := by
  have m1 : Hid True := trivial
  have m2 : Hid True := trivial
  have F : Hid (okB [c0] ⟨k, x, y, 0, -1, -1, -1, 0⟩ = asksB k x) := newB k x y
  cases hz : asksB k x with
  | true =>
    rw [hz] at F
    rw [show newD k x y = ⟨k, x, y, 0, -1, -1, -1, 0⟩ from if_pos hz]
    clear hz
    go_enter Try.func15, Try.ntmps15
    go_wp2_with (first | (clear m1; refine wpList_alloc_v rfl 29 rfl _ zeroH ?_; intro b6 w1 hb6 hw1 hB1 hV1; have hz1 := hB1.size) | (refine wpList_alloc_v rfl 29 rfl _ zeroH ?_; intro b8 w3 hb8 hw3 hB3 hV3; have hz3 := hB3.size) | (clear m2; refine wpList_store_v rfl 29 _ _ rfl b8 (hv ⟨k, x, y, 0, -1, -1, -1, 0⟩) rfl rfl sizeH hV3 rfl (hv_one _) ?_; intro w4 hO4 hV4; have hz4 := hO4.1; have h8 : HB w4 b8 ⟨k, x, y, 0, -1, -1, -1, 0⟩ := ⟨hV4⟩) | (fail))
    have S0 := h8.drew.cells
    go_region_held3 (fun w' => w'.cell? ⟨b8, 0, none⟩ = some (.int .i64 k) ∧ w'.cell? ⟨b8, 1, none⟩ = some (.int .i64 x) ∧ w'.cell? ⟨b8, 2, none⟩ = some (.int .i64 y) ∧ w'.cell? ⟨b8, 3, none⟩ = some (.int .i64 0) ∧ w'.cell? ⟨b8, 4, none⟩ = some (.int .i64 (-1)) ∧ w'.cell? ⟨b8, 5, none⟩ = some (.int .i64 (-1)) ∧ w'.cell? ⟨b8, 6, none⟩ = some (.int .i64 (-1)) ∧ w'.cell? ⟨b8, 7, none⟩ = some (.int .i64 0)) (first | assumption | exact S0 | (fail)) (first | (go_at_call 45; refine (specNewHeap_any w4.drew).mono ?_; rintro er w5 ⟨v5, rfl, hO5, hB5⟩; have hz5 : w4.heap.size ≤ w5.heap.size := hB5.size; replace h8 := h8.of (w' := w5) (hB5.block b8 (by show b8 < w4.heap.size; omega)); have S5 := h8.cells) | (go_at_call 35; refine (l5Ok_any [c0] ok_c0 ⟨k, x, y, 0, -1, -1, -1, 0⟩ _ w5.heap.size w5 (Nat.le_refl _) hO5.rd).mono ?_; rintro er w6 ⟨he, hB6⟩; rw [F.out] at he; subst he; have hz6 := hB6.size; replace h8 := h8.of (hB6.block b8 (by omega)); have S6 := h8.cells) | (fail))
    obtain ⟨c0', c1', c2', c3', c4', c5', c6', c7'⟩ := h8.cells
    have hB : Below w.heap.size w w6 := ((((hB1.trans (hB3.mono (by omega))).trans (hO4.2.2 _ (by omega))).drew).trans (hB5.mono (by show w.heap.size ≤ w4.heap.size; omega))).trans (hB6.mono (by omega))
    go_wp2_with (first | (refine wpList_store_v rfl 29 _ _ rfl b6 (hv ⟨k, x, y, 0, -1, -1, -1, 0⟩) rfl rfl sizeH ((((hV1.below hB3 (by omega)).of (hO4.2.1 b6 (by omega))).drew.below hB5 (by show b6 < w4.heap.size; omega)).below hB6 (by omega)) rfl (hv_one _) ?_; intro w7 hO7 hV7) | (fail))
    refine row_cell_tmp rfl rfl rfl hV7 Try.underlying29 sizeH rfl ⟨rfl, ?_⟩
    exact (hB.trans (hO7.2.2 _ (by omega)))
  | false =>
    rw [hz] at F
    rw [show newD k x y = ⟨0, 0, 0, 0, 0, 0, 0, 0⟩ from if_neg (by rw [hz]; simp)]
    clear hz
    go_enter Try.func15, Try.ntmps15
    go_wp2_with (first | (clear m1; refine wpList_alloc_v rfl 29 rfl _ zeroH ?_; intro b6 w1 hb6 hw1 hB1 hV1; have hz1 := hB1.size) | (refine wpList_alloc_v rfl 29 rfl _ zeroH ?_; intro b8 w3 hb8 hw3 hB3 hV3; have hz3 := hB3.size) | (clear m2; refine wpList_store_v rfl 29 _ _ rfl b8 (hv ⟨k, x, y, 0, -1, -1, -1, 0⟩) rfl rfl sizeH hV3 rfl (hv_one _) ?_; intro w4 hO4 hV4; have hz4 := hO4.1; have h8 : HB w4 b8 ⟨k, x, y, 0, -1, -1, -1, 0⟩ := ⟨hV4⟩) | (fail))
    have S0 := h8.drew.cells
    go_region_held3 (fun w' => w'.cell? ⟨b8, 0, none⟩ = some (.int .i64 k) ∧ w'.cell? ⟨b8, 1, none⟩ = some (.int .i64 x) ∧ w'.cell? ⟨b8, 2, none⟩ = some (.int .i64 y) ∧ w'.cell? ⟨b8, 3, none⟩ = some (.int .i64 0) ∧ w'.cell? ⟨b8, 4, none⟩ = some (.int .i64 (-1)) ∧ w'.cell? ⟨b8, 5, none⟩ = some (.int .i64 (-1)) ∧ w'.cell? ⟨b8, 6, none⟩ = some (.int .i64 (-1)) ∧ w'.cell? ⟨b8, 7, none⟩ = some (.int .i64 0)) (first | assumption | exact S0 | (fail)) (first | (go_at_call 45; refine (specNewHeap_any w4.drew).mono ?_; rintro er w5 ⟨v5, rfl, hO5, hB5⟩; have hz5 : w4.heap.size ≤ w5.heap.size := hB5.size; replace h8 := h8.of (w' := w5) (hB5.block b8 (by show b8 < w4.heap.size; omega)); have S5 := h8.cells) | (go_at_call 35; refine (l5Ok_any [c0] ok_c0 ⟨k, x, y, 0, -1, -1, -1, 0⟩ _ w5.heap.size w5 (Nat.le_refl _) hO5.rd).mono ?_; rintro er w6 ⟨he, hB6⟩; rw [F.out] at he; subst he; have hz6 := hB6.size; replace h8 := h8.of (hB6.block b8 (by omega)); have S6 := h8.cells) | (fail))
    obtain ⟨c0', c1', c2', c3', c4', c5', c6', c7'⟩ := h8.cells
    have hB : Below w.heap.size w w6 := ((((hB1.trans (hB3.mono (by omega))).trans (hO4.2.2 _ (by omega))).drew).trans (hB5.mono (by show w.heap.size ≤ w4.heap.size; omega))).trans (hB6.mono (by omega))
    go_wp2_with (first | (refine wpList_store_v rfl 29 _ _ rfl b6 (hv ⟨0, 0, 0, 0, 0, 0, 0, 0⟩) rfl rfl sizeH ((((hV1.below hB3 (by omega)).of (hO4.2.1 b6 (by omega))).drew.below hB5 (by show b6 < w4.heap.size; omega)).below hB6 (by omega)) rfl (hv_one _) ?_; intro w7 hO7 hV7) | (fail))
    refine row_cell_tmp rfl rfl rfl hV7 Try.underlying29 sizeH rfl ⟨rfl, ?_⟩
    exact (hB.trans (hO7.2.2 _ (by omega)))
end Go.Proofs.Ytodpbghkjnlfdaa.ce
