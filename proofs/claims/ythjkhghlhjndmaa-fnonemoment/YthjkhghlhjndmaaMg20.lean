/- Texts laid together: Ih7 Pl10. -/
import Derived.Test.YthjkhghlhjndmaaIh6
import Derived.Test.YthjkhghlhjndmaaMg15
import Derived.Test.YthjkhghlhjndmaaPl8
import Derived.Test.YthjkhghlhjndmaaPl9
import Derived.Test.YthjkhghlhjndmaaMg07
/- Contract: the program's HandOk. -/
namespace Go.Proofs.Ythjkhghlhjndmaa.ce
open Go.ChangeShapes Go.WideShapes Go.ChangeAt Go.RowKit
set_option linter.unusedVariables false

set_option maxHeartbeats 2000000 in
theorem implHandOk_any (H : List C) (d : Hd) (v : Value) (hi : Nat) (w : World) (hh : hi ≤ w.heap.size) (r : Rd w hi v H) :
    Calls Try.prog 48 #[v, .agg (hv d).toArray] w fun e w' => e = .returned (.bool (handB H d)) ∧ Below w.heap.size w w' := by
  obtain ⟨a, cap, rfl⟩ := r.form
  have R : Hid (Rd w hi (.slice a H.length cap) H) := r
  clear r
  obtain ⟨k, x, y, s, l, e, o, t⟩ := d
  by_cases hok : heapOk H
  case neg =>
    rw [handB_neg hok]
    have F0 : Hid (decide (heapOk H) = false) := decide_eq_false hok
    clear hok
    go_enter Try.func48, Try.ntmps48
    go_wp2_with (first | (refine wpList_box_v rfl 58 _ rfl (hv ⟨k, x, y, s, l, e, o, t⟩) rfl ?_; intro b1 w1 hb1 hw1 hB1 hV1; have hz1 := hB1.size; have hb : HB w1 b1 ⟨k, x, y, s, l, e, o, t⟩ := ⟨hV1⟩; obtain ⟨c0, c1, c2, c3, c4, c5, c6, c7⟩ := hb.cells) | (go_at_call 47; refine (implHeapOk_any H _ hi _ (by omega) (R.out.below hB1 hh)).mono ?_; rintro er w2 ⟨rfl, hB2⟩; rw [F0.out]; have hz2 := hB2.size; replace hb := hb.of (hB2.block b1 (by omega)); clear c0 c1 c2 c3 c4 c5 c6 c7; obtain ⟨c0, c1, c2, c3, c4, c5, c6, c7⟩ := hb.cells; have hB : Below w.heap.size w w2 := hB1.trans (hB2.mono (by omega))) | (fail))
    go_ret
    exact ⟨rfl, hB⟩
  have F0 : Hid (decide (heapOk H) = true) := decide_eq_true hok
  have HO : Hid (heapOk H) := hok
  rw [handB_pos hok]
  obtain ⟨z, hz⟩ := hid_ex (okB H ⟨k, x, y, s, l, e, o, t⟩)
  rw [hz.out]
  cases h1 : decide ((1 ≤ k ∧ k ≤ 3) ∧ 1 ≤ x ∧ x ≤ 65535) with
  | false =>
    have F1 : Hid ((decide ((1 ≤ k ∧ k ≤ 3) ∧ 1 ≤ x ∧ x ≤ 65535)) = false) := h1
    have ez : z = false := okB_no hok hz.out (fun q => of_decide_eq_false h1 q.asks)
    clear hok h1
    subst ez
    go_enter Try.func48, Try.ntmps48
    go_wp2_with (first | (refine wpList_box_v rfl 58 _ rfl (hv ⟨k, x, y, s, l, e, o, t⟩) rfl ?_; intro b1 w1 hb1 hw1 hB1 hV1; have hz1 := hB1.size; have hb : HB w1 b1 ⟨k, x, y, s, l, e, o, t⟩ := ⟨hV1⟩; obtain ⟨c0, c1, c2, c3, c4, c5, c6, c7⟩ := hb.cells) | (go_at_call 47; refine (implHeapOk_any H _ hi _ (by omega) (R.out.below hB1 hh)).mono ?_; rintro er w2 ⟨rfl, hB2⟩; rw [F0.out]; have hz2 := hB2.size; replace hb := hb.of (hB2.block b1 (by omega)); clear c0 c1 c2 c3 c4 c5 c6 c7; obtain ⟨c0, c1, c2, c3, c4, c5, c6, c7⟩ := hb.cells; have hB : Below w.heap.size w w2 := hB1.trans (hB2.mono (by omega))) | (go_at_call 80; refine (asksRight_any ⟨k, x, y, s, l, e, o, t⟩ _).mono ?_; rintro er w3 ⟨rfl, hB3⟩; rw [F1.out]; have hz3 := hB3.size; replace hb := hb.of (hB3.block b1 (by omega)); clear c0 c1 c2 c3 c4 c5 c6 c7; obtain ⟨c0, c1, c2, c3, c4, c5, c6, c7⟩ := hb.cells; have hB : Below w.heap.size w w3 := hB.trans (hB3.mono (by omega))) | (fail))
    go_ret
    exact ⟨rfl, hB⟩
  | true =>
    have F1 : Hid ((decide ((1 ≤ k ∧ k ≤ 3) ∧ 1 ≤ x ∧ x ≤ 65535)) = true) := h1
    cases h2 : stepB k s with
    | false =>
      have F2 : Hid ((stepB k s) = false) := h2
      have ez : z = false := okB_no hok hz.out (fun q => by have := q.step; rw [h2] at this; cases this)
      clear hok h1 h2
      subst ez
      go_enter Try.func48, Try.ntmps48
      go_wp2_with (first | (refine wpList_box_v rfl 58 _ rfl (hv ⟨k, x, y, s, l, e, o, t⟩) rfl ?_; intro b1 w1 hb1 hw1 hB1 hV1; have hz1 := hB1.size; have hb : HB w1 b1 ⟨k, x, y, s, l, e, o, t⟩ := ⟨hV1⟩; obtain ⟨c0, c1, c2, c3, c4, c5, c6, c7⟩ := hb.cells) | (go_at_call 47; refine (implHeapOk_any H _ hi _ (by omega) (R.out.below hB1 hh)).mono ?_; rintro er w2 ⟨rfl, hB2⟩; rw [F0.out]; have hz2 := hB2.size; replace hb := hb.of (hB2.block b1 (by omega)); clear c0 c1 c2 c3 c4 c5 c6 c7; obtain ⟨c0, c1, c2, c3, c4, c5, c6, c7⟩ := hb.cells; have hB : Below w.heap.size w w2 := hB1.trans (hB2.mono (by omega))) | (go_at_call 80; refine (asksRight_any ⟨k, x, y, s, l, e, o, t⟩ _).mono ?_; rintro er w3 ⟨rfl, hB3⟩; rw [F1.out]; have hz3 := hB3.size; replace hb := hb.of (hB3.block b1 (by omega)); clear c0 c1 c2 c3 c4 c5 c6 c7; obtain ⟨c0, c1, c2, c3, c4, c5, c6, c7⟩ := hb.cells; have hB : Below w.heap.size w w3 := hB.trans (hB3.mono (by omega))) | (go_at_call 81; refine (stepRight_any ⟨k, x, y, s, l, e, o, t⟩ _).mono ?_; rintro er w4 ⟨rfl, hB4⟩; rw [F2.out]; have hz4 := hB4.size; replace hb := hb.of (hB4.block b1 (by omega)); clear c0 c1 c2 c3 c4 c5 c6 c7; obtain ⟨c0, c1, c2, c3, c4, c5, c6, c7⟩ := hb.cells; have hB : Below w.heap.size w w4 := hB.trans (hB4.mono (by omega))) | (fail))
      go_ret
      exact ⟨rfl, hB⟩
    | true =>
      have F2 : Hid ((stepB k s) = true) := h2
      cases h3 : toldB s t with
      | false =>
        have F3 : Hid ((toldB s t) = false) := h3
        have ez : z = false := okB_no hok hz.out (fun q => by have := q.told; rw [h3] at this; cases this)
        clear hok h1 h2 h3
        subst ez
        go_enter Try.func48, Try.ntmps48
        go_wp2_with (first | (refine wpList_box_v rfl 58 _ rfl (hv ⟨k, x, y, s, l, e, o, t⟩) rfl ?_; intro b1 w1 hb1 hw1 hB1 hV1; have hz1 := hB1.size; have hb : HB w1 b1 ⟨k, x, y, s, l, e, o, t⟩ := ⟨hV1⟩; obtain ⟨c0, c1, c2, c3, c4, c5, c6, c7⟩ := hb.cells) | (go_at_call 47; refine (implHeapOk_any H _ hi _ (by omega) (R.out.below hB1 hh)).mono ?_; rintro er w2 ⟨rfl, hB2⟩; rw [F0.out]; have hz2 := hB2.size; replace hb := hb.of (hB2.block b1 (by omega)); clear c0 c1 c2 c3 c4 c5 c6 c7; obtain ⟨c0, c1, c2, c3, c4, c5, c6, c7⟩ := hb.cells; have hB : Below w.heap.size w w2 := hB1.trans (hB2.mono (by omega))) | (go_at_call 80; refine (asksRight_any ⟨k, x, y, s, l, e, o, t⟩ _).mono ?_; rintro er w3 ⟨rfl, hB3⟩; rw [F1.out]; have hz3 := hB3.size; replace hb := hb.of (hB3.block b1 (by omega)); clear c0 c1 c2 c3 c4 c5 c6 c7; obtain ⟨c0, c1, c2, c3, c4, c5, c6, c7⟩ := hb.cells; have hB : Below w.heap.size w w3 := hB.trans (hB3.mono (by omega))) | (go_at_call 81; refine (stepRight_any ⟨k, x, y, s, l, e, o, t⟩ _).mono ?_; rintro er w4 ⟨rfl, hB4⟩; rw [F2.out]; have hz4 := hB4.size; replace hb := hb.of (hB4.block b1 (by omega)); clear c0 c1 c2 c3 c4 c5 c6 c7; obtain ⟨c0, c1, c2, c3, c4, c5, c6, c7⟩ := hb.cells; have hB : Below w.heap.size w w4 := hB.trans (hB4.mono (by omega))) | (go_at_call 82; refine (toldRight_any ⟨k, x, y, s, l, e, o, t⟩ _).mono ?_; rintro er w5 ⟨rfl, hB5⟩; rw [F3.out]; have hz5 := hB5.size; replace hb := hb.of (hB5.block b1 (by omega)); clear c0 c1 c2 c3 c4 c5 c6 c7; obtain ⟨c0, c1, c2, c3, c4, c5, c6, c7⟩ := hb.cells; have hB : Below w.heap.size w w5 := hB.trans (hB5.mono (by omega))) | (fail))
        go_ret
        exact ⟨rfl, hB⟩
      | true =>
        have F3 : Hid ((toldB s t) = true) := h3
        cases h4 : leftB H x s l with
        | false =>
          have F4 : Hid ((leftB H x s l) = false) := h4
          have ez : z = false := okB_no hok hz.out (fun q => by have := q.left; rw [h4] at this; cases this)
          clear hok h1 h2 h3 h4
          subst ez
          go_enter Try.func48, Try.ntmps48
          go_wp2_with (first | (refine wpList_box_v rfl 58 _ rfl (hv ⟨k, x, y, s, l, e, o, t⟩) rfl ?_; intro b1 w1 hb1 hw1 hB1 hV1; have hz1 := hB1.size; have hb : HB w1 b1 ⟨k, x, y, s, l, e, o, t⟩ := ⟨hV1⟩; obtain ⟨c0, c1, c2, c3, c4, c5, c6, c7⟩ := hb.cells) | (go_at_call 47; refine (implHeapOk_any H _ hi _ (by omega) (R.out.below hB1 hh)).mono ?_; rintro er w2 ⟨rfl, hB2⟩; rw [F0.out]; have hz2 := hB2.size; replace hb := hb.of (hB2.block b1 (by omega)); clear c0 c1 c2 c3 c4 c5 c6 c7; obtain ⟨c0, c1, c2, c3, c4, c5, c6, c7⟩ := hb.cells; have hB : Below w.heap.size w w2 := hB1.trans (hB2.mono (by omega))) | (go_at_call 80; refine (asksRight_any ⟨k, x, y, s, l, e, o, t⟩ _).mono ?_; rintro er w3 ⟨rfl, hB3⟩; rw [F1.out]; have hz3 := hB3.size; replace hb := hb.of (hB3.block b1 (by omega)); clear c0 c1 c2 c3 c4 c5 c6 c7; obtain ⟨c0, c1, c2, c3, c4, c5, c6, c7⟩ := hb.cells; have hB : Below w.heap.size w w3 := hB.trans (hB3.mono (by omega))) | (go_at_call 81; refine (stepRight_any ⟨k, x, y, s, l, e, o, t⟩ _).mono ?_; rintro er w4 ⟨rfl, hB4⟩; rw [F2.out]; have hz4 := hB4.size; replace hb := hb.of (hB4.block b1 (by omega)); clear c0 c1 c2 c3 c4 c5 c6 c7; obtain ⟨c0, c1, c2, c3, c4, c5, c6, c7⟩ := hb.cells; have hB : Below w.heap.size w w4 := hB.trans (hB4.mono (by omega))) | (go_at_call 82; refine (toldRight_any ⟨k, x, y, s, l, e, o, t⟩ _).mono ?_; rintro er w5 ⟨rfl, hB5⟩; rw [F3.out]; have hz5 := hB5.size; replace hb := hb.of (hB5.block b1 (by omega)); clear c0 c1 c2 c3 c4 c5 c6 c7; obtain ⟨c0, c1, c2, c3, c4, c5, c6, c7⟩ := hb.cells; have hB : Below w.heap.size w w5 := hB.trans (hB5.mono (by omega))) | (go_at_call 83; refine (leftRight_any H HO.out ⟨k, x, y, s, l, e, o, t⟩ _ hi _ (by omega) (R.out.below hB hh)).mono ?_; rintro er w6 ⟨rfl, hB6⟩; rw [F4.out]; have hz6 := hB6.size; replace hb := hb.of (hB6.block b1 (by omega)); clear c0 c1 c2 c3 c4 c5 c6 c7; obtain ⟨c0, c1, c2, c3, c4, c5, c6, c7⟩ := hb.cells; have hB : Below w.heap.size w w6 := hB.trans (hB6.mono (by omega))) | (fail))
          go_ret
          exact ⟨rfl, hB⟩
        | true =>
          have F4 : Hid ((leftB H x s l) = true) := h4
          cases h5 : hereB H x s e with
          | false =>
            have F5 : Hid ((hereB H x s e) = false) := h5
            have ez : z = false := okB_no hok hz.out (fun q => by have := q.here; rw [h5] at this; cases this)
            clear hok h1 h2 h3 h4 h5
            subst ez
            go_enter Try.func48, Try.ntmps48
            go_wp2_with (first | (refine wpList_box_v rfl 58 _ rfl (hv ⟨k, x, y, s, l, e, o, t⟩) rfl ?_; intro b1 w1 hb1 hw1 hB1 hV1; have hz1 := hB1.size; have hb : HB w1 b1 ⟨k, x, y, s, l, e, o, t⟩ := ⟨hV1⟩; obtain ⟨c0, c1, c2, c3, c4, c5, c6, c7⟩ := hb.cells) | (go_at_call 47; refine (implHeapOk_any H _ hi _ (by omega) (R.out.below hB1 hh)).mono ?_; rintro er w2 ⟨rfl, hB2⟩; rw [F0.out]; have hz2 := hB2.size; replace hb := hb.of (hB2.block b1 (by omega)); clear c0 c1 c2 c3 c4 c5 c6 c7; obtain ⟨c0, c1, c2, c3, c4, c5, c6, c7⟩ := hb.cells; have hB : Below w.heap.size w w2 := hB1.trans (hB2.mono (by omega))) | (go_at_call 80; refine (asksRight_any ⟨k, x, y, s, l, e, o, t⟩ _).mono ?_; rintro er w3 ⟨rfl, hB3⟩; rw [F1.out]; have hz3 := hB3.size; replace hb := hb.of (hB3.block b1 (by omega)); clear c0 c1 c2 c3 c4 c5 c6 c7; obtain ⟨c0, c1, c2, c3, c4, c5, c6, c7⟩ := hb.cells; have hB : Below w.heap.size w w3 := hB.trans (hB3.mono (by omega))) | (go_at_call 81; refine (stepRight_any ⟨k, x, y, s, l, e, o, t⟩ _).mono ?_; rintro er w4 ⟨rfl, hB4⟩; rw [F2.out]; have hz4 := hB4.size; replace hb := hb.of (hB4.block b1 (by omega)); clear c0 c1 c2 c3 c4 c5 c6 c7; obtain ⟨c0, c1, c2, c3, c4, c5, c6, c7⟩ := hb.cells; have hB : Below w.heap.size w w4 := hB.trans (hB4.mono (by omega))) | (go_at_call 82; refine (toldRight_any ⟨k, x, y, s, l, e, o, t⟩ _).mono ?_; rintro er w5 ⟨rfl, hB5⟩; rw [F3.out]; have hz5 := hB5.size; replace hb := hb.of (hB5.block b1 (by omega)); clear c0 c1 c2 c3 c4 c5 c6 c7; obtain ⟨c0, c1, c2, c3, c4, c5, c6, c7⟩ := hb.cells; have hB : Below w.heap.size w w5 := hB.trans (hB5.mono (by omega))) | (go_at_call 83; refine (leftRight_any H HO.out ⟨k, x, y, s, l, e, o, t⟩ _ hi _ (by omega) (R.out.below hB hh)).mono ?_; rintro er w6 ⟨rfl, hB6⟩; rw [F4.out]; have hz6 := hB6.size; replace hb := hb.of (hB6.block b1 (by omega)); clear c0 c1 c2 c3 c4 c5 c6 c7; obtain ⟨c0, c1, c2, c3, c4, c5, c6, c7⟩ := hb.cells; have hB : Below w.heap.size w w6 := hB.trans (hB6.mono (by omega))) | (go_at_call 84; refine (hereRight_any H HO.out ⟨k, x, y, s, l, e, o, t⟩ _ hi _ (by omega) (R.out.below hB hh)).mono ?_; rintro er w7 ⟨rfl, hB7⟩; rw [F5.out]; have hz7 := hB7.size; replace hb := hb.of (hB7.block b1 (by omega)); clear c0 c1 c2 c3 c4 c5 c6 c7; obtain ⟨c0, c1, c2, c3, c4, c5, c6, c7⟩ := hb.cells; have hB : Below w.heap.size w w7 := hB.trans (hB7.mono (by omega))) | (fail))
            go_ret
            exact ⟨rfl, hB⟩
          | true =>
            have F5 : Hid ((hereB H x s e) = true) := h5
            cases h6 : ownB H k x y s e o with
            | false =>
              have F6 : Hid ((ownB H k x y s e o) = false) := h6
              have ez : z = false := okB_no hok hz.out (fun q => by have := q.own; rw [h6] at this; cases this)
              clear hok h1 h2 h3 h4 h5 h6
              subst ez
              go_enter Try.func48, Try.ntmps48
              go_wp2_with (first | (refine wpList_box_v rfl 58 _ rfl (hv ⟨k, x, y, s, l, e, o, t⟩) rfl ?_; intro b1 w1 hb1 hw1 hB1 hV1; have hz1 := hB1.size; have hb : HB w1 b1 ⟨k, x, y, s, l, e, o, t⟩ := ⟨hV1⟩; obtain ⟨c0, c1, c2, c3, c4, c5, c6, c7⟩ := hb.cells) | (go_at_call 47; refine (implHeapOk_any H _ hi _ (by omega) (R.out.below hB1 hh)).mono ?_; rintro er w2 ⟨rfl, hB2⟩; rw [F0.out]; have hz2 := hB2.size; replace hb := hb.of (hB2.block b1 (by omega)); clear c0 c1 c2 c3 c4 c5 c6 c7; obtain ⟨c0, c1, c2, c3, c4, c5, c6, c7⟩ := hb.cells; have hB : Below w.heap.size w w2 := hB1.trans (hB2.mono (by omega))) | (go_at_call 80; refine (asksRight_any ⟨k, x, y, s, l, e, o, t⟩ _).mono ?_; rintro er w3 ⟨rfl, hB3⟩; rw [F1.out]; have hz3 := hB3.size; replace hb := hb.of (hB3.block b1 (by omega)); clear c0 c1 c2 c3 c4 c5 c6 c7; obtain ⟨c0, c1, c2, c3, c4, c5, c6, c7⟩ := hb.cells; have hB : Below w.heap.size w w3 := hB.trans (hB3.mono (by omega))) | (go_at_call 81; refine (stepRight_any ⟨k, x, y, s, l, e, o, t⟩ _).mono ?_; rintro er w4 ⟨rfl, hB4⟩; rw [F2.out]; have hz4 := hB4.size; replace hb := hb.of (hB4.block b1 (by omega)); clear c0 c1 c2 c3 c4 c5 c6 c7; obtain ⟨c0, c1, c2, c3, c4, c5, c6, c7⟩ := hb.cells; have hB : Below w.heap.size w w4 := hB.trans (hB4.mono (by omega))) | (go_at_call 82; refine (toldRight_any ⟨k, x, y, s, l, e, o, t⟩ _).mono ?_; rintro er w5 ⟨rfl, hB5⟩; rw [F3.out]; have hz5 := hB5.size; replace hb := hb.of (hB5.block b1 (by omega)); clear c0 c1 c2 c3 c4 c5 c6 c7; obtain ⟨c0, c1, c2, c3, c4, c5, c6, c7⟩ := hb.cells; have hB : Below w.heap.size w w5 := hB.trans (hB5.mono (by omega))) | (go_at_call 83; refine (leftRight_any H HO.out ⟨k, x, y, s, l, e, o, t⟩ _ hi _ (by omega) (R.out.below hB hh)).mono ?_; rintro er w6 ⟨rfl, hB6⟩; rw [F4.out]; have hz6 := hB6.size; replace hb := hb.of (hB6.block b1 (by omega)); clear c0 c1 c2 c3 c4 c5 c6 c7; obtain ⟨c0, c1, c2, c3, c4, c5, c6, c7⟩ := hb.cells; have hB : Below w.heap.size w w6 := hB.trans (hB6.mono (by omega))) | (go_at_call 84; refine (hereRight_any H HO.out ⟨k, x, y, s, l, e, o, t⟩ _ hi _ (by omega) (R.out.below hB hh)).mono ?_; rintro er w7 ⟨rfl, hB7⟩; rw [F5.out]; have hz7 := hB7.size; replace hb := hb.of (hB7.block b1 (by omega)); clear c0 c1 c2 c3 c4 c5 c6 c7; obtain ⟨c0, c1, c2, c3, c4, c5, c6, c7⟩ := hb.cells; have hB : Below w.heap.size w w7 := hB.trans (hB7.mono (by omega))) | (go_at_call 85; refine (ownRight_any H HO.out ⟨k, x, y, s, l, e, o, t⟩ _ hi _ (by omega) (R.out.below hB hh)).mono ?_; rintro er w8 ⟨rfl, hB8⟩; rw [F6.out]; have hz8 := hB8.size; replace hb := hb.of (hB8.block b1 (by omega)); clear c0 c1 c2 c3 c4 c5 c6 c7; obtain ⟨c0, c1, c2, c3, c4, c5, c6, c7⟩ := hb.cells; have hB : Below w.heap.size w w8 := hB.trans (hB8.mono (by omega))) | (fail))
              go_ret
              exact ⟨rfl, hB⟩
            | true =>
              have F6 : Hid ((ownB H k x y s e o) = true) := h6
              have ez : z = true := (okB_parts hok hz.out).2 ⟨of_decide_eq_true h1, h2, h3, h4, h5, h6⟩
              clear hok h1 h2 h3 h4 h5 h6
              subst ez
              go_enter Try.func48, Try.ntmps48
              go_wp2_with (first | (refine wpList_box_v rfl 58 _ rfl (hv ⟨k, x, y, s, l, e, o, t⟩) rfl ?_; intro b1 w1 hb1 hw1 hB1 hV1; have hz1 := hB1.size; have hb : HB w1 b1 ⟨k, x, y, s, l, e, o, t⟩ := ⟨hV1⟩; obtain ⟨c0, c1, c2, c3, c4, c5, c6, c7⟩ := hb.cells) | (go_at_call 47; refine (implHeapOk_any H _ hi _ (by omega) (R.out.below hB1 hh)).mono ?_; rintro er w2 ⟨rfl, hB2⟩; rw [F0.out]; have hz2 := hB2.size; replace hb := hb.of (hB2.block b1 (by omega)); clear c0 c1 c2 c3 c4 c5 c6 c7; obtain ⟨c0, c1, c2, c3, c4, c5, c6, c7⟩ := hb.cells; have hB : Below w.heap.size w w2 := hB1.trans (hB2.mono (by omega))) | (go_at_call 80; refine (asksRight_any ⟨k, x, y, s, l, e, o, t⟩ _).mono ?_; rintro er w3 ⟨rfl, hB3⟩; rw [F1.out]; have hz3 := hB3.size; replace hb := hb.of (hB3.block b1 (by omega)); clear c0 c1 c2 c3 c4 c5 c6 c7; obtain ⟨c0, c1, c2, c3, c4, c5, c6, c7⟩ := hb.cells; have hB : Below w.heap.size w w3 := hB.trans (hB3.mono (by omega))) | (go_at_call 81; refine (stepRight_any ⟨k, x, y, s, l, e, o, t⟩ _).mono ?_; rintro er w4 ⟨rfl, hB4⟩; rw [F2.out]; have hz4 := hB4.size; replace hb := hb.of (hB4.block b1 (by omega)); clear c0 c1 c2 c3 c4 c5 c6 c7; obtain ⟨c0, c1, c2, c3, c4, c5, c6, c7⟩ := hb.cells; have hB : Below w.heap.size w w4 := hB.trans (hB4.mono (by omega))) | (go_at_call 82; refine (toldRight_any ⟨k, x, y, s, l, e, o, t⟩ _).mono ?_; rintro er w5 ⟨rfl, hB5⟩; rw [F3.out]; have hz5 := hB5.size; replace hb := hb.of (hB5.block b1 (by omega)); clear c0 c1 c2 c3 c4 c5 c6 c7; obtain ⟨c0, c1, c2, c3, c4, c5, c6, c7⟩ := hb.cells; have hB : Below w.heap.size w w5 := hB.trans (hB5.mono (by omega))) | (go_at_call 83; refine (leftRight_any H HO.out ⟨k, x, y, s, l, e, o, t⟩ _ hi _ (by omega) (R.out.below hB hh)).mono ?_; rintro er w6 ⟨rfl, hB6⟩; rw [F4.out]; have hz6 := hB6.size; replace hb := hb.of (hB6.block b1 (by omega)); clear c0 c1 c2 c3 c4 c5 c6 c7; obtain ⟨c0, c1, c2, c3, c4, c5, c6, c7⟩ := hb.cells; have hB : Below w.heap.size w w6 := hB.trans (hB6.mono (by omega))) | (go_at_call 84; refine (hereRight_any H HO.out ⟨k, x, y, s, l, e, o, t⟩ _ hi _ (by omega) (R.out.below hB hh)).mono ?_; rintro er w7 ⟨rfl, hB7⟩; rw [F5.out]; have hz7 := hB7.size; replace hb := hb.of (hB7.block b1 (by omega)); clear c0 c1 c2 c3 c4 c5 c6 c7; obtain ⟨c0, c1, c2, c3, c4, c5, c6, c7⟩ := hb.cells; have hB : Below w.heap.size w w7 := hB.trans (hB7.mono (by omega))) | (go_at_call 85; refine (ownRight_any H HO.out ⟨k, x, y, s, l, e, o, t⟩ _ hi _ (by omega) (R.out.below hB hh)).mono ?_; rintro er w8 ⟨rfl, hB8⟩; rw [F6.out]; have hz8 := hB8.size; replace hb := hb.of (hB8.block b1 (by omega)); clear c0 c1 c2 c3 c4 c5 c6 c7; obtain ⟨c0, c1, c2, c3, c4, c5, c6, c7⟩ := hb.cells; have hB : Below w.heap.size w w8 := hB.trans (hB8.mono (by omega))) | (fail))
              go_ret
              exact ⟨rfl, hB⟩
end Go.Proofs.Ythjkhghlhjndmaa.ce
/- The program's played: the loop; Moved, Alone. -/
namespace Go.Proofs.Ythjkhghlhjndmaa.ce
open Go.ChangeShapes Go.WideShapes Go.ChangeAt Go.RowKit
set_option linter.unusedVariables false


def runC : Nat → List C → Hd → List C × Hd
  | 0, H, d => (H, d)
  | n + 1, H, d => runC n (move H d).1 (move H d).2
theorem runC_done : ∀ (n : Nat) (H : List C) (d : Hd), d.step = 5 → runC n H d = (H, d)
  | 0, _, _, _ => rfl
  | n + 1, H, d, h => by
    have e : move H d = (H, d) := by simp [move, h]
    show runC n (move H d).1 (move H d).2 = _
    rw [e]; exact runC_done n H d h
theorem wp_skip_seq {P : Program} {c : Code} {Q : Exit → Act → World → Prop} {a : Act} {w : World} (h : c.wp P Q a w) : (Code.seq .skip c).wp P Q a w := wp_seq (wp_skip h)

theorem passAll (w0 : World) (b4 b7 : Nat) (R : Ending → World → Prop) (rest : Code) (hr : findLabel body 0 = some (.seq .skip rest)) : ∀ (n : Nat), n ≤ 1000 → ∀ (H : List C) (d : Hd), heapOk H → OkH H d → ∀ (w : World) (v u1 u3 u5 u6 u8 u9 u10 u11 u12 u13 u14 u15 u16 u17 u18 u19 u20 u21 u22 u23 u24 u25 u26 u27 u28 u29 u30 u31 u32 u33 u34 u35 u36 u37 u38 u39 u40 u41 u42 u43 u44 u45 u46 u47 u48 u49 u50 u51 u52 u53 u54 u55 u56 u57 u58 u59 u60 u61 u62 u63 u64 u65 u66 u67 u68 u69 u70 u71 u72 u73 u74 u75 u76 u77 u78 u79 u80 u81 u82 u83 u84 u85 u86 u87 u88 u89 u90 u91 u92 u93 u94 u95 u96 u97 u98 u99 u100 u101 u102 u103 u104 u105 u106 u107 u108 u109 u110 u111 u112 u113 u114 u115 u116 u117 u118 u119 u120 u121 u122 u123 u124 u125 u126 u127 u128 u129 u130 u131 u132 u133 u134 u135 u136 u137 u138 u139 u140 u141 u142 u143 u144 : Value), Pm w0 w b4 b7 v H d →
    (∀ v' w', Own w' w0.heap.size w'.heap.size v' (runC n H d).1 → Below w0.heap.size w0 w' → R (.returned (.tuple #[v', .agg (hv (runC n H d).2).toArray])) w') →
    rest.wp Try.prog (Scoped Try.prog body (bodyPost Try.prog Try.f130 R)) { tmps := #[v, u1, .int .i64 ((n : Int)), u3, .pointer (some ⟨b4, 0, none⟩), u5, u6, .pointer (some ⟨b7, 0, none⟩), u8, u9, u10, u11, u12, u13, u14, u15, u16, u17, u18, u19, u20, u21, u22, u23, u24, u25, u26, u27, u28, u29, u30, u31, u32, u33, u34, u35, u36, u37, u38, u39, u40, u41, u42, u43, u44, u45, u46, u47, u48, u49, u50, u51, u52, u53, u54, u55, u56, u57, u58, u59, u60, u61, u62, u63, u64, u65, u66, u67, u68, u69, u70, u71, u72, u73, u74, u75, u76, u77, u78, u79, u80, u81, u82, u83, u84, u85, u86, u87, u88, u89, u90, u91, u92, u93, u94, u95, u96, u97, u98, u99, u100, u101, u102, u103, u104, u105, u106, u107, u108, u109, u110, u111, u112, u113, u114, u115, u116, u117, u118, u119, u120, u121, u122, u123, u124, u125, u126, u127, u128, u129, u130, u131, u132, u133, u134, u135, u136, u137, u138, u139, u140, u141, u142, u143, u144], defers := [] } w := by
  intro n
  induction n with
  | zero =>
    intro _ H d hok ok w v u1 u3 u5 u6 u8 u9 u10 u11 u12 u13 u14 u15 u16 u17 u18 u19 u20 u21 u22 u23 u24 u25 u26 u27 u28 u29 u30 u31 u32 u33 u34 u35 u36 u37 u38 u39 u40 u41 u42 u43 u44 u45 u46 u47 u48 u49 u50 u51 u52 u53 u54 u55 u56 u57 u58 u59 u60 u61 u62 u63 u64 u65 u66 u67 u68 u69 u70 u71 u72 u73 u74 u75 u76 u77 u78 u79 u80 u81 u82 u83 u84 u85 u86 u87 u88 u89 u90 u91 u92 u93 u94 u95 u96 u97 u98 u99 u100 u101 u102 u103 u104 u105 u106 u107 u108 u109 u110 u111 u112 u113 u114 u115 u116 u117 u118 u119 u120 u121 u122 u123 u124 u125 u126 u127 u128 u129 u130 u131 u132 u133 u134 u135 u136 u137 u138 u139 u140 u141 u142 u143 u144 pm hR
    exact pass_out w0 b4 b7 _ (by omega) (by omega) H d w v u1 u3 u5 u6 u8 u9 u10 u11 u12 u13 u14 u15 u16 u17 u18 u19 u20 u21 u22 u23 u24 u25 u26 u27 u28 u29 u30 u31 u32 u33 u34 u35 u36 u37 u38 u39 u40 u41 u42 u43 u44 u45 u46 u47 u48 u49 u50 u51 u52 u53 u54 u55 u56 u57 u58 u59 u60 u61 u62 u63 u64 u65 u66 u67 u68 u69 u70 u71 u72 u73 u74 u75 u76 u77 u78 u79 u80 u81 u82 u83 u84 u85 u86 u87 u88 u89 u90 u91 u92 u93 u94 u95 u96 u97 u98 u99 u100 u101 u102 u103 u104 u105 u106 u107 u108 u109 u110 u111 u112 u113 u114 u115 u116 u117 u118 u119 u120 u121 u122 u123 u124 u125 u126 u127 u128 u129 u130 u131 u132 u133 u134 u135 u136 u137 u138 u139 u140 u141 u142 u143 u144 pm R hR rest hr
  | succ n ih =>
    intro hn H d hok ok w v u1 u3 u5 u6 u8 u9 u10 u11 u12 u13 u14 u15 u16 u17 u18 u19 u20 u21 u22 u23 u24 u25 u26 u27 u28 u29 u30 u31 u32 u33 u34 u35 u36 u37 u38 u39 u40 u41 u42 u43 u44 u45 u46 u47 u48 u49 u50 u51 u52 u53 u54 u55 u56 u57 u58 u59 u60 u61 u62 u63 u64 u65 u66 u67 u68 u69 u70 u71 u72 u73 u74 u75 u76 u77 u78 u79 u80 u81 u82 u83 u84 u85 u86 u87 u88 u89 u90 u91 u92 u93 u94 u95 u96 u97 u98 u99 u100 u101 u102 u103 u104 u105 u106 u107 u108 u109 u110 u111 u112 u113 u114 u115 u116 u117 u118 u119 u120 u121 u122 u123 u124 u125 u126 u127 u128 u129 u130 u131 u132 u133 u134 u135 u136 u137 u138 u139 u140 u141 u142 u143 u144 pm hR
    have hkp : heapOk (move H d).1 ∧ OkH (move H d).1 (move H d).2 := ⟨(move_keeps hok ok).heap, (move_keeps hok ok).hand⟩
    have e1 : ((n + 1 : Nat) : Int) - 1 = (n : Int) := by omega
    have nx : ∀ (w' : World) (v u1 u3 u5 u6 u8 u9 u10 u11 u12 u13 u14 u15 u16 u17 u18 u19 u20 u21 u22 u23 u24 u25 u26 u27 u28 u29 u30 u31 u32 u33 u34 u35 u36 u37 u38 u39 u40 u41 u42 u43 u44 u45 u46 u47 u48 u49 u50 u51 u52 u53 u54 u55 u56 u57 u58 u59 u60 u61 u62 u63 u64 u65 u66 u67 u68 u69 u70 u71 u72 u73 u74 u75 u76 u77 u78 u79 u80 u81 u82 u83 u84 u85 u86 u87 u88 u89 u90 u91 u92 u93 u94 u95 u96 u97 u98 u99 u100 u101 u102 u103 u104 u105 u106 u107 u108 u109 u110 u111 u112 u113 u114 u115 u116 u117 u118 u119 u120 u121 u122 u123 u124 u125 u126 u127 u128 u129 u130 u131 u132 u133 u134 u135 u136 u137 u138 u139 u140 u141 u142 u143 u144 : Value), Pm w0 w' b4 b7 v (move H d).1 (move H d).2 → Scoped Try.prog body (bodyPost Try.prog Try.f130 R) (.goto 0) { tmps := #[v, u1, .int .i64 (((n + 1 : Nat) : Int) - 1), u3, .pointer (some ⟨b4, 0, none⟩), u5, u6, .pointer (some ⟨b7, 0, none⟩), u8, u9, u10, u11, u12, u13, u14, u15, u16, u17, u18, u19, u20, u21, u22, u23, u24, u25, u26, u27, u28, u29, u30, u31, u32, u33, u34, u35, u36, u37, u38, u39, u40, u41, u42, u43, u44, u45, u46, u47, u48, u49, u50, u51, u52, u53, u54, u55, u56, u57, u58, u59, u60, u61, u62, u63, u64, u65, u66, u67, u68, u69, u70, u71, u72, u73, u74, u75, u76, u77, u78, u79, u80, u81, u82, u83, u84, u85, u86, u87, u88, u89, u90, u91, u92, u93, u94, u95, u96, u97, u98, u99, u100, u101, u102, u103, u104, u105, u106, u107, u108, u109, u110, u111, u112, u113, u114, u115, u116, u117, u118, u119, u120, u121, u122, u123, u124, u125, u126, u127, u128, u129, u130, u131, u132, u133, u134, u135, u136, u137, u138, u139, u140, u141, u142, u143, u144], defers := [] } w' := by
      intro w' v u1 u3 u5 u6 u8 u9 u10 u11 u12 u13 u14 u15 u16 u17 u18 u19 u20 u21 u22 u23 u24 u25 u26 u27 u28 u29 u30 u31 u32 u33 u34 u35 u36 u37 u38 u39 u40 u41 u42 u43 u44 u45 u46 u47 u48 u49 u50 u51 u52 u53 u54 u55 u56 u57 u58 u59 u60 u61 u62 u63 u64 u65 u66 u67 u68 u69 u70 u71 u72 u73 u74 u75 u76 u77 u78 u79 u80 u81 u82 u83 u84 u85 u86 u87 u88 u89 u90 u91 u92 u93 u94 u95 u96 u97 u98 u99 u100 u101 u102 u103 u104 u105 u106 u107 u108 u109 u110 u111 u112 u113 u114 u115 u116 u117 u118 u119 u120 u121 u122 u123 u124 u125 u126 u127 u128 u129 u130 u131 u132 u133 u134 u135 u136 u137 u138 u139 u140 u141 u142 u143 u144 pm'
      rw [e1]
      exact scoped_goto hr (wp_skip_seq (ih (by omega) _ _ hkp.1 hkp.2 w' v u1 u3 u5 u6 u8 u9 u10 u11 u12 u13 u14 u15 u16 u17 u18 u19 u20 u21 u22 u23 u24 u25 u26 u27 u28 u29 u30 u31 u32 u33 u34 u35 u36 u37 u38 u39 u40 u41 u42 u43 u44 u45 u46 u47 u48 u49 u50 u51 u52 u53 u54 u55 u56 u57 u58 u59 u60 u61 u62 u63 u64 u65 u66 u67 u68 u69 u70 u71 u72 u73 u74 u75 u76 u77 u78 u79 u80 u81 u82 u83 u84 u85 u86 u87 u88 u89 u90 u91 u92 u93 u94 u95 u96 u97 u98 u99 u100 u101 u102 u103 u104 u105 u106 u107 u108 u109 u110 u111 u112 u113 u114 u115 u116 u117 u118 u119 u120 u121 u122 u123 u124 u125 u126 u127 u128 u129 u130 u131 u132 u133 u134 u135 u136 u137 u138 u139 u140 u141 u142 u143 u144 pm' hR))
    have hm : (1 : Int) ≤ ((n + 1 : Nat) : Int) := by omega
    have hm2 : ((n + 1 : Nat) : Int) ≤ 1000 := by omega
    have hs := ok.step
    obtain ⟨k, x, y, s, l, e, o, t⟩ := d
    simp only [] at hs
    rcases (by omega : s = 0 ∨ s = 1 ∨ s = 2 ∨ s = 3 ∨ s = 4 ∨ s = 5) with rfl | rfl | rfl | rfl | rfl | rfl
    · exact pass_start w0 b4 b7 _ hm hm2 H k x y l e o t hok ok w v u1 u3 u5 u6 u8 u9 u10 u11 u12 u13 u14 u15 u16 u17 u18 u19 u20 u21 u22 u23 u24 u25 u26 u27 u28 u29 u30 u31 u32 u33 u34 u35 u36 u37 u38 u39 u40 u41 u42 u43 u44 u45 u46 u47 u48 u49 u50 u51 u52 u53 u54 u55 u56 u57 u58 u59 u60 u61 u62 u63 u64 u65 u66 u67 u68 u69 u70 u71 u72 u73 u74 u75 u76 u77 u78 u79 u80 u81 u82 u83 u84 u85 u86 u87 u88 u89 u90 u91 u92 u93 u94 u95 u96 u97 u98 u99 u100 u101 u102 u103 u104 u105 u106 u107 u108 u109 u110 u111 u112 u113 u114 u115 u116 u117 u118 u119 u120 u121 u122 u123 u124 u125 u126 u127 u128 u129 u130 u131 u132 u133 u134 u135 u136 u137 u138 u139 u140 u141 u142 u143 u144 pm _ nx rest hr
    · exact pass_walk w0 b4 b7 _ hm hm2 H k x y l e o t hok ok w v u1 u3 u5 u6 u8 u9 u10 u11 u12 u13 u14 u15 u16 u17 u18 u19 u20 u21 u22 u23 u24 u25 u26 u27 u28 u29 u30 u31 u32 u33 u34 u35 u36 u37 u38 u39 u40 u41 u42 u43 u44 u45 u46 u47 u48 u49 u50 u51 u52 u53 u54 u55 u56 u57 u58 u59 u60 u61 u62 u63 u64 u65 u66 u67 u68 u69 u70 u71 u72 u73 u74 u75 u76 u77 u78 u79 u80 u81 u82 u83 u84 u85 u86 u87 u88 u89 u90 u91 u92 u93 u94 u95 u96 u97 u98 u99 u100 u101 u102 u103 u104 u105 u106 u107 u108 u109 u110 u111 u112 u113 u114 u115 u116 u117 u118 u119 u120 u121 u122 u123 u124 u125 u126 u127 u128 u129 u130 u131 u132 u133 u134 u135 u136 u137 u138 u139 u140 u141 u142 u143 u144 pm _ nx rest hr
    · exact pass_act w0 b4 b7 _ hm hm2 H k x y l e o t hok ok w v u1 u3 u5 u6 u8 u9 u10 u11 u12 u13 u14 u15 u16 u17 u18 u19 u20 u21 u22 u23 u24 u25 u26 u27 u28 u29 u30 u31 u32 u33 u34 u35 u36 u37 u38 u39 u40 u41 u42 u43 u44 u45 u46 u47 u48 u49 u50 u51 u52 u53 u54 u55 u56 u57 u58 u59 u60 u61 u62 u63 u64 u65 u66 u67 u68 u69 u70 u71 u72 u73 u74 u75 u76 u77 u78 u79 u80 u81 u82 u83 u84 u85 u86 u87 u88 u89 u90 u91 u92 u93 u94 u95 u96 u97 u98 u99 u100 u101 u102 u103 u104 u105 u106 u107 u108 u109 u110 u111 u112 u113 u114 u115 u116 u117 u118 u119 u120 u121 u122 u123 u124 u125 u126 u127 u128 u129 u130 u131 u132 u133 u134 u135 u136 u137 u138 u139 u140 u141 u142 u143 u144 pm _ nx rest hr
    · exact pass_link w0 b4 b7 _ hm hm2 H k x y l e o t hok ok w v u1 u3 u5 u6 u8 u9 u10 u11 u12 u13 u14 u15 u16 u17 u18 u19 u20 u21 u22 u23 u24 u25 u26 u27 u28 u29 u30 u31 u32 u33 u34 u35 u36 u37 u38 u39 u40 u41 u42 u43 u44 u45 u46 u47 u48 u49 u50 u51 u52 u53 u54 u55 u56 u57 u58 u59 u60 u61 u62 u63 u64 u65 u66 u67 u68 u69 u70 u71 u72 u73 u74 u75 u76 u77 u78 u79 u80 u81 u82 u83 u84 u85 u86 u87 u88 u89 u90 u91 u92 u93 u94 u95 u96 u97 u98 u99 u100 u101 u102 u103 u104 u105 u106 u107 u108 u109 u110 u111 u112 u113 u114 u115 u116 u117 u118 u119 u120 u121 u122 u123 u124 u125 u126 u127 u128 u129 u130 u131 u132 u133 u134 u135 u136 u137 u138 u139 u140 u141 u142 u143 u144 pm _ nx rest hr
    · exact pass_mark w0 b4 b7 _ hm hm2 H k x y l e o t hok ok w v u1 u3 u5 u6 u8 u9 u10 u11 u12 u13 u14 u15 u16 u17 u18 u19 u20 u21 u22 u23 u24 u25 u26 u27 u28 u29 u30 u31 u32 u33 u34 u35 u36 u37 u38 u39 u40 u41 u42 u43 u44 u45 u46 u47 u48 u49 u50 u51 u52 u53 u54 u55 u56 u57 u58 u59 u60 u61 u62 u63 u64 u65 u66 u67 u68 u69 u70 u71 u72 u73 u74 u75 u76 u77 u78 u79 u80 u81 u82 u83 u84 u85 u86 u87 u88 u89 u90 u91 u92 u93 u94 u95 u96 u97 u98 u99 u100 u101 u102 u103 u104 u105 u106 u107 u108 u109 u110 u111 u112 u113 u114 u115 u116 u117 u118 u119 u120 u121 u122 u123 u124 u125 u126 u127 u128 u129 u130 u131 u132 u133 u134 u135 u136 u137 u138 u139 u140 u141 u142 u143 u144 pm _ nx rest hr
    · rw [runC_done (n + 1) H _ rfl] at hR
      exact pass_done w0 b4 b7 _ hm hm2 H k x y l e o t w v u1 u3 u5 u6 u8 u9 u10 u11 u12 u13 u14 u15 u16 u17 u18 u19 u20 u21 u22 u23 u24 u25 u26 u27 u28 u29 u30 u31 u32 u33 u34 u35 u36 u37 u38 u39 u40 u41 u42 u43 u44 u45 u46 u47 u48 u49 u50 u51 u52 u53 u54 u55 u56 u57 u58 u59 u60 u61 u62 u63 u64 u65 u66 u67 u68 u69 u70 u71 u72 u73 u74 u75 u76 u77 u78 u79 u80 u81 u82 u83 u84 u85 u86 u87 u88 u89 u90 u91 u92 u93 u94 u95 u96 u97 u98 u99 u100 u101 u102 u103 u104 u105 u106 u107 u108 u109 u110 u111 u112 u113 u114 u115 u116 u117 u118 u119 u120 u121 u122 u123 u124 u125 u126 u127 u128 u129 u130 u131 u132 u133 u134 u135 u136 u137 u138 u139 u140 u141 u142 u143 u144 pm R hR rest hr
end Go.Proofs.Ythjkhghlhjndmaa.ce
