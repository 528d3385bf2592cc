/- Contract: the program's HandOk. -/
import Derived.Test.YtodpbghkjnlfdaaIh6
namespace Go.Proofs.Ytodpbghkjnlfdaa.ce
open Go.ChangeShapes Go.WideShapes Go.ChangeAt Go.RowKit
set_option linter.unusedVariables false

set_option maxHeartbeats 2000000 in
theorem implHandOk_any (H : List C) (d : Hd) (v : Value) (hi : Nat) (w : World) (hh : hi ≤ w.heap.size) (r : Rd w hi v H) :
    Calls Try.prog 13 #[v, .agg (hv d).toArray] w fun e w' => e = .returned (.bool (handB H d)) ∧ Below w.heap.size w w' := by
  obtain ⟨a, cap, rfl⟩ := r.form
  have R : Hid (Rd w hi (.slice a H.length cap) H) := r
  clear r
  obtain ⟨k, x, y, s, l, e, o, t⟩ := d
  by_cases hok : heapOk H
  case neg =>
    rw [handB_neg hok]
    have F0 : Hid (decide (heapOk H) = false) := decide_eq_false hok
    clear hok
    go_enter Try.func13, Try.ntmps13
    go_wp2_with (first | (refine wpList_box_v rfl 29 _ rfl (hv ⟨k, x, y, s, l, e, o, t⟩) rfl ?_; intro b1 w1 hb1 hw1 hB1 hV1; have hz1 := hB1.size; have hb : HB w1 b1 ⟨k, x, y, s, l, e, o, t⟩ := ⟨hV1⟩; obtain ⟨c0, c1, c2, c3, c4, c5, c6, c7⟩ := hb.cells) | (go_at_call 37; refine (implHeapOk_any H _ hi _ (by omega) (R.out.below hB1 hh)).mono ?_; rintro er w2 ⟨rfl, hB2⟩; rw [F0.out]; have hz2 := hB2.size; replace hb := hb.of (hB2.block b1 (by omega)); clear c0 c1 c2 c3 c4 c5 c6 c7; obtain ⟨c0, c1, c2, c3, c4, c5, c6, c7⟩ := hb.cells; have hB : Below w.heap.size w w2 := hB1.trans (hB2.mono (by omega))) | (fail))
    go_ret
    exact ⟨rfl, hB⟩
  have F0 : Hid (decide (heapOk H) = true) := decide_eq_true hok
  have HO : Hid (heapOk H) := hok
  rw [handB_pos hok]
  obtain ⟨z, hz⟩ := hid_ex (okB H ⟨k, x, y, s, l, e, o, t⟩)
  rw [hz.out]
  cases h1 : decide ((1 ≤ k ∧ k ≤ 3) ∧ 1 ≤ x ∧ x ≤ 65535) with
  | false =>
    have F1 : Hid ((decide ((1 ≤ k ∧ k ≤ 3) ∧ 1 ≤ x ∧ x ≤ 65535)) = false) := h1
    have ez : z = false := okB_no hok hz.out (fun q => of_decide_eq_false h1 q.asks)
    clear hok h1
    subst ez
    go_enter Try.func13, Try.ntmps13
    go_wp2_with (first | (refine wpList_box_v rfl 29 _ rfl (hv ⟨k, x, y, s, l, e, o, t⟩) rfl ?_; intro b1 w1 hb1 hw1 hB1 hV1; have hz1 := hB1.size; have hb : HB w1 b1 ⟨k, x, y, s, l, e, o, t⟩ := ⟨hV1⟩; obtain ⟨c0, c1, c2, c3, c4, c5, c6, c7⟩ := hb.cells) | (go_at_call 37; refine (implHeapOk_any H _ hi _ (by omega) (R.out.below hB1 hh)).mono ?_; rintro er w2 ⟨rfl, hB2⟩; rw [F0.out]; have hz2 := hB2.size; replace hb := hb.of (hB2.block b1 (by omega)); clear c0 c1 c2 c3 c4 c5 c6 c7; obtain ⟨c0, c1, c2, c3, c4, c5, c6, c7⟩ := hb.cells; have hB : Below w.heap.size w w2 := hB1.trans (hB2.mono (by omega))) | (go_at_call 38; refine (asksRight_any ⟨k, x, y, s, l, e, o, t⟩ _).mono ?_; rintro er w3 ⟨rfl, hB3⟩; rw [F1.out]; have hz3 := hB3.size; replace hb := hb.of (hB3.block b1 (by omega)); clear c0 c1 c2 c3 c4 c5 c6 c7; obtain ⟨c0, c1, c2, c3, c4, c5, c6, c7⟩ := hb.cells; have hB : Below w.heap.size w w3 := hB.trans (hB3.mono (by omega))) | (fail))
    go_ret
    exact ⟨rfl, hB⟩
  | true =>
    have F1 : Hid ((decide ((1 ≤ k ∧ k ≤ 3) ∧ 1 ≤ x ∧ x ≤ 65535)) = true) := h1
    cases h2 : stepB k s with
    | false =>
      have F2 : Hid ((stepB k s) = false) := h2
      have ez : z = false := okB_no hok hz.out (fun q => by have := q.step; rw [h2] at this; cases this)
      clear hok h1 h2
      subst ez
      go_enter Try.func13, Try.ntmps13
      go_wp2_with (first | (refine wpList_box_v rfl 29 _ rfl (hv ⟨k, x, y, s, l, e, o, t⟩) rfl ?_; intro b1 w1 hb1 hw1 hB1 hV1; have hz1 := hB1.size; have hb : HB w1 b1 ⟨k, x, y, s, l, e, o, t⟩ := ⟨hV1⟩; obtain ⟨c0, c1, c2, c3, c4, c5, c6, c7⟩ := hb.cells) | (go_at_call 37; refine (implHeapOk_any H _ hi _ (by omega) (R.out.below hB1 hh)).mono ?_; rintro er w2 ⟨rfl, hB2⟩; rw [F0.out]; have hz2 := hB2.size; replace hb := hb.of (hB2.block b1 (by omega)); clear c0 c1 c2 c3 c4 c5 c6 c7; obtain ⟨c0, c1, c2, c3, c4, c5, c6, c7⟩ := hb.cells; have hB : Below w.heap.size w w2 := hB1.trans (hB2.mono (by omega))) | (go_at_call 38; refine (asksRight_any ⟨k, x, y, s, l, e, o, t⟩ _).mono ?_; rintro er w3 ⟨rfl, hB3⟩; rw [F1.out]; have hz3 := hB3.size; replace hb := hb.of (hB3.block b1 (by omega)); clear c0 c1 c2 c3 c4 c5 c6 c7; obtain ⟨c0, c1, c2, c3, c4, c5, c6, c7⟩ := hb.cells; have hB : Below w.heap.size w w3 := hB.trans (hB3.mono (by omega))) | (go_at_call 39; refine (stepRight_any ⟨k, x, y, s, l, e, o, t⟩ _).mono ?_; rintro er w4 ⟨rfl, hB4⟩; rw [F2.out]; have hz4 := hB4.size; replace hb := hb.of (hB4.block b1 (by omega)); clear c0 c1 c2 c3 c4 c5 c6 c7; obtain ⟨c0, c1, c2, c3, c4, c5, c6, c7⟩ := hb.cells; have hB : Below w.heap.size w w4 := hB.trans (hB4.mono (by omega))) | (fail))
      go_ret
      exact ⟨rfl, hB⟩
    | true =>
      have F2 : Hid ((stepB k s) = true) := h2
      cases h3 : toldB s t with
      | false =>
        have F3 : Hid ((toldB s t) = false) := h3
        have ez : z = false := okB_no hok hz.out (fun q => by have := q.told; rw [h3] at this; cases this)
        clear hok h1 h2 h3
        subst ez
        go_enter Try.func13, Try.ntmps13
        go_wp2_with (first | (refine wpList_box_v rfl 29 _ rfl (hv ⟨k, x, y, s, l, e, o, t⟩) rfl ?_; intro b1 w1 hb1 hw1 hB1 hV1; have hz1 := hB1.size; have hb : HB w1 b1 ⟨k, x, y, s, l, e, o, t⟩ := ⟨hV1⟩; obtain ⟨c0, c1, c2, c3, c4, c5, c6, c7⟩ := hb.cells) | (go_at_call 37; refine (implHeapOk_any H _ hi _ (by omega) (R.out.below hB1 hh)).mono ?_; rintro er w2 ⟨rfl, hB2⟩; rw [F0.out]; have hz2 := hB2.size; replace hb := hb.of (hB2.block b1 (by omega)); clear c0 c1 c2 c3 c4 c5 c6 c7; obtain ⟨c0, c1, c2, c3, c4, c5, c6, c7⟩ := hb.cells; have hB : Below w.heap.size w w2 := hB1.trans (hB2.mono (by omega))) | (go_at_call 38; refine (asksRight_any ⟨k, x, y, s, l, e, o, t⟩ _).mono ?_; rintro er w3 ⟨rfl, hB3⟩; rw [F1.out]; have hz3 := hB3.size; replace hb := hb.of (hB3.block b1 (by omega)); clear c0 c1 c2 c3 c4 c5 c6 c7; obtain ⟨c0, c1, c2, c3, c4, c5, c6, c7⟩ := hb.cells; have hB : Below w.heap.size w w3 := hB.trans (hB3.mono (by omega))) | (go_at_call 39; refine (stepRight_any ⟨k, x, y, s, l, e, o, t⟩ _).mono ?_; rintro er w4 ⟨rfl, hB4⟩; rw [F2.out]; have hz4 := hB4.size; replace hb := hb.of (hB4.block b1 (by omega)); clear c0 c1 c2 c3 c4 c5 c6 c7; obtain ⟨c0, c1, c2, c3, c4, c5, c6, c7⟩ := hb.cells; have hB : Below w.heap.size w w4 := hB.trans (hB4.mono (by omega))) | (go_at_call 40; refine (toldRight_any ⟨k, x, y, s, l, e, o, t⟩ _).mono ?_; rintro er w5 ⟨rfl, hB5⟩; rw [F3.out]; have hz5 := hB5.size; replace hb := hb.of (hB5.block b1 (by omega)); clear c0 c1 c2 c3 c4 c5 c6 c7; obtain ⟨c0, c1, c2, c3, c4, c5, c6, c7⟩ := hb.cells; have hB : Below w.heap.size w w5 := hB.trans (hB5.mono (by omega))) | (fail))
        go_ret
        exact ⟨rfl, hB⟩
      | true =>
        have F3 : Hid ((toldB s t) = true) := h3
        cases h4 : leftB H x s l with
        | false =>
          have F4 : Hid ((leftB H x s l) = false) := h4
          have ez : z = false := okB_no hok hz.out (fun q => by have := q.left; rw [h4] at this; cases this)
          clear hok h1 h2 h3 h4
          subst ez
          go_enter Try.func13, Try.ntmps13
          go_wp2_with (first | (refine wpList_box_v rfl 29 _ rfl (hv ⟨k, x, y, s, l, e, o, t⟩) rfl ?_; intro b1 w1 hb1 hw1 hB1 hV1; have hz1 := hB1.size; have hb : HB w1 b1 ⟨k, x, y, s, l, e, o, t⟩ := ⟨hV1⟩; obtain ⟨c0, c1, c2, c3, c4, c5, c6, c7⟩ := hb.cells) | (go_at_call 37; refine (implHeapOk_any H _ hi _ (by omega) (R.out.below hB1 hh)).mono ?_; rintro er w2 ⟨rfl, hB2⟩; rw [F0.out]; have hz2 := hB2.size; replace hb := hb.of (hB2.block b1 (by omega)); clear c0 c1 c2 c3 c4 c5 c6 c7; obtain ⟨c0, c1, c2, c3, c4, c5, c6, c7⟩ := hb.cells; have hB : Below w.heap.size w w2 := hB1.trans (hB2.mono (by omega))) | (go_at_call 38; refine (asksRight_any ⟨k, x, y, s, l, e, o, t⟩ _).mono ?_; rintro er w3 ⟨rfl, hB3⟩; rw [F1.out]; have hz3 := hB3.size; replace hb := hb.of (hB3.block b1 (by omega)); clear c0 c1 c2 c3 c4 c5 c6 c7; obtain ⟨c0, c1, c2, c3, c4, c5, c6, c7⟩ := hb.cells; have hB : Below w.heap.size w w3 := hB.trans (hB3.mono (by omega))) | (go_at_call 39; refine (stepRight_any ⟨k, x, y, s, l, e, o, t⟩ _).mono ?_; rintro er w4 ⟨rfl, hB4⟩; rw [F2.out]; have hz4 := hB4.size; replace hb := hb.of (hB4.block b1 (by omega)); clear c0 c1 c2 c3 c4 c5 c6 c7; obtain ⟨c0, c1, c2, c3, c4, c5, c6, c7⟩ := hb.cells; have hB : Below w.heap.size w w4 := hB.trans (hB4.mono (by omega))) | (go_at_call 40; refine (toldRight_any ⟨k, x, y, s, l, e, o, t⟩ _).mono ?_; rintro er w5 ⟨rfl, hB5⟩; rw [F3.out]; have hz5 := hB5.size; replace hb := hb.of (hB5.block b1 (by omega)); clear c0 c1 c2 c3 c4 c5 c6 c7; obtain ⟨c0, c1, c2, c3, c4, c5, c6, c7⟩ := hb.cells; have hB : Below w.heap.size w w5 := hB.trans (hB5.mono (by omega))) | (go_at_call 41; refine (leftRight_any H HO.out ⟨k, x, y, s, l, e, o, t⟩ _ hi _ (by omega) (R.out.below hB hh)).mono ?_; rintro er w6 ⟨rfl, hB6⟩; rw [F4.out]; have hz6 := hB6.size; replace hb := hb.of (hB6.block b1 (by omega)); clear c0 c1 c2 c3 c4 c5 c6 c7; obtain ⟨c0, c1, c2, c3, c4, c5, c6, c7⟩ := hb.cells; have hB : Below w.heap.size w w6 := hB.trans (hB6.mono (by omega))) | (fail))
          go_ret
          exact ⟨rfl, hB⟩
        | true =>
          have F4 : Hid ((leftB H x s l) = true) := h4
          cases h5 : hereB H x s e with
          | false =>
            have F5 : Hid ((hereB H x s e) = false) := h5
            have ez : z = false := okB_no hok hz.out (fun q => by have := q.here; rw [h5] at this; cases this)
            clear hok h1 h2 h3 h4 h5
            subst ez
            go_enter Try.func13, Try.ntmps13
            go_wp2_with (first | (refine wpList_box_v rfl 29 _ rfl (hv ⟨k, x, y, s, l, e, o, t⟩) rfl ?_; intro b1 w1 hb1 hw1 hB1 hV1; have hz1 := hB1.size; have hb : HB w1 b1 ⟨k, x, y, s, l, e, o, t⟩ := ⟨hV1⟩; obtain ⟨c0, c1, c2, c3, c4, c5, c6, c7⟩ := hb.cells) | (go_at_call 37; refine (implHeapOk_any H _ hi _ (by omega) (R.out.below hB1 hh)).mono ?_; rintro er w2 ⟨rfl, hB2⟩; rw [F0.out]; have hz2 := hB2.size; replace hb := hb.of (hB2.block b1 (by omega)); clear c0 c1 c2 c3 c4 c5 c6 c7; obtain ⟨c0, c1, c2, c3, c4, c5, c6, c7⟩ := hb.cells; have hB : Below w.heap.size w w2 := hB1.trans (hB2.mono (by omega))) | (go_at_call 38; refine (asksRight_any ⟨k, x, y, s, l, e, o, t⟩ _).mono ?_; rintro er w3 ⟨rfl, hB3⟩; rw [F1.out]; have hz3 := hB3.size; replace hb := hb.of (hB3.block b1 (by omega)); clear c0 c1 c2 c3 c4 c5 c6 c7; obtain ⟨c0, c1, c2, c3, c4, c5, c6, c7⟩ := hb.cells; have hB : Below w.heap.size w w3 := hB.trans (hB3.mono (by omega))) | (go_at_call 39; refine (stepRight_any ⟨k, x, y, s, l, e, o, t⟩ _).mono ?_; rintro er w4 ⟨rfl, hB4⟩; rw [F2.out]; have hz4 := hB4.size; replace hb := hb.of (hB4.block b1 (by omega)); clear c0 c1 c2 c3 c4 c5 c6 c7; obtain ⟨c0, c1, c2, c3, c4, c5, c6, c7⟩ := hb.cells; have hB : Below w.heap.size w w4 := hB.trans (hB4.mono (by omega))) | (go_at_call 40; refine (toldRight_any ⟨k, x, y, s, l, e, o, t⟩ _).mono ?_; rintro er w5 ⟨rfl, hB5⟩; rw [F3.out]; have hz5 := hB5.size; replace hb := hb.of (hB5.block b1 (by omega)); clear c0 c1 c2 c3 c4 c5 c6 c7; obtain ⟨c0, c1, c2, c3, c4, c5, c6, c7⟩ := hb.cells; have hB : Below w.heap.size w w5 := hB.trans (hB5.mono (by omega))) | (go_at_call 41; refine (leftRight_any H HO.out ⟨k, x, y, s, l, e, o, t⟩ _ hi _ (by omega) (R.out.below hB hh)).mono ?_; rintro er w6 ⟨rfl, hB6⟩; rw [F4.out]; have hz6 := hB6.size; replace hb := hb.of (hB6.block b1 (by omega)); clear c0 c1 c2 c3 c4 c5 c6 c7; obtain ⟨c0, c1, c2, c3, c4, c5, c6, c7⟩ := hb.cells; have hB : Below w.heap.size w w6 := hB.trans (hB6.mono (by omega))) | (go_at_call 42; refine (hereRight_any H HO.out ⟨k, x, y, s, l, e, o, t⟩ _ hi _ (by omega) (R.out.below hB hh)).mono ?_; rintro er w7 ⟨rfl, hB7⟩; rw [F5.out]; have hz7 := hB7.size; replace hb := hb.of (hB7.block b1 (by omega)); clear c0 c1 c2 c3 c4 c5 c6 c7; obtain ⟨c0, c1, c2, c3, c4, c5, c6, c7⟩ := hb.cells; have hB : Below w.heap.size w w7 := hB.trans (hB7.mono (by omega))) | (fail))
            go_ret
            exact ⟨rfl, hB⟩
          | true =>
            have F5 : Hid ((hereB H x s e) = true) := h5
            cases h6 : ownB H k x y s e o with
            | false =>
              have F6 : Hid ((ownB H k x y s e o) = false) := h6
              have ez : z = false := okB_no hok hz.out (fun q => by have := q.own; rw [h6] at this; cases this)
              clear hok h1 h2 h3 h4 h5 h6
              subst ez
              go_enter Try.func13, Try.ntmps13
              go_wp2_with (first | (refine wpList_box_v rfl 29 _ rfl (hv ⟨k, x, y, s, l, e, o, t⟩) rfl ?_; intro b1 w1 hb1 hw1 hB1 hV1; have hz1 := hB1.size; have hb : HB w1 b1 ⟨k, x, y, s, l, e, o, t⟩ := ⟨hV1⟩; obtain ⟨c0, c1, c2, c3, c4, c5, c6, c7⟩ := hb.cells) | (go_at_call 37; refine (implHeapOk_any H _ hi _ (by omega) (R.out.below hB1 hh)).mono ?_; rintro er w2 ⟨rfl, hB2⟩; rw [F0.out]; have hz2 := hB2.size; replace hb := hb.of (hB2.block b1 (by omega)); clear c0 c1 c2 c3 c4 c5 c6 c7; obtain ⟨c0, c1, c2, c3, c4, c5, c6, c7⟩ := hb.cells; have hB : Below w.heap.size w w2 := hB1.trans (hB2.mono (by omega))) | (go_at_call 38; refine (asksRight_any ⟨k, x, y, s, l, e, o, t⟩ _).mono ?_; rintro er w3 ⟨rfl, hB3⟩; rw [F1.out]; have hz3 := hB3.size; replace hb := hb.of (hB3.block b1 (by omega)); clear c0 c1 c2 c3 c4 c5 c6 c7; obtain ⟨c0, c1, c2, c3, c4, c5, c6, c7⟩ := hb.cells; have hB : Below w.heap.size w w3 := hB.trans (hB3.mono (by omega))) | (go_at_call 39; refine (stepRight_any ⟨k, x, y, s, l, e, o, t⟩ _).mono ?_; rintro er w4 ⟨rfl, hB4⟩; rw [F2.out]; have hz4 := hB4.size; replace hb := hb.of (hB4.block b1 (by omega)); clear c0 c1 c2 c3 c4 c5 c6 c7; obtain ⟨c0, c1, c2, c3, c4, c5, c6, c7⟩ := hb.cells; have hB : Below w.heap.size w w4 := hB.trans (hB4.mono (by omega))) | (go_at_call 40; refine (toldRight_any ⟨k, x, y, s, l, e, o, t⟩ _).mono ?_; rintro er w5 ⟨rfl, hB5⟩; rw [F3.out]; have hz5 := hB5.size; replace hb := hb.of (hB5.block b1 (by omega)); clear c0 c1 c2 c3 c4 c5 c6 c7; obtain ⟨c0, c1, c2, c3, c4, c5, c6, c7⟩ := hb.cells; have hB : Below w.heap.size w w5 := hB.trans (hB5.mono (by omega))) | (go_at_call 41; refine (leftRight_any H HO.out ⟨k, x, y, s, l, e, o, t⟩ _ hi _ (by omega) (R.out.below hB hh)).mono ?_; rintro er w6 ⟨rfl, hB6⟩; rw [F4.out]; have hz6 := hB6.size; replace hb := hb.of (hB6.block b1 (by omega)); clear c0 c1 c2 c3 c4 c5 c6 c7; obtain ⟨c0, c1, c2, c3, c4, c5, c6, c7⟩ := hb.cells; have hB : Below w.heap.size w w6 := hB.trans (hB6.mono (by omega))) | (go_at_call 42; refine (hereRight_any H HO.out ⟨k, x, y, s, l, e, o, t⟩ _ hi _ (by omega) (R.out.below hB hh)).mono ?_; rintro er w7 ⟨rfl, hB7⟩; rw [F5.out]; have hz7 := hB7.size; replace hb := hb.of (hB7.block b1 (by omega)); clear c0 c1 c2 c3 c4 c5 c6 c7; obtain ⟨c0, c1, c2, c3, c4, c5, c6, c7⟩ := hb.cells; have hB : Below w.heap.size w w7 := hB.trans (hB7.mono (by omega))) | (go_at_call 43; refine (ownRight_any H HO.out ⟨k, x, y, s, l, e, o, t⟩ _ hi _ (by omega) (R.out.below hB hh)).mono ?_; rintro er w8 ⟨rfl, hB8⟩; rw [F6.out]; have hz8 := hB8.size; replace hb := hb.of (hB8.block b1 (by omega)); clear c0 c1 c2 c3 c4 c5 c6 c7; obtain ⟨c0, c1, c2, c3, c4, c5, c6, c7⟩ := hb.cells; have hB : Below w.heap.size w w8 := hB.trans (hB8.mono (by omega))) | (fail))
              go_ret
              exact ⟨rfl, hB⟩
            | true =>
              have F6 : Hid ((ownB H k x y s e o) = true) := h6
              have ez : z = true := (okB_parts hok hz.out).2 ⟨of_decide_eq_true h1, h2, h3, h4, h5, h6⟩
              clear hok h1 h2 h3 h4 h5 h6
              subst ez
              go_enter Try.func13, Try.ntmps13
              go_wp2_with (first | (refine wpList_box_v rfl 29 _ rfl (hv ⟨k, x, y, s, l, e, o, t⟩) rfl ?_; intro b1 w1 hb1 hw1 hB1 hV1; have hz1 := hB1.size; have hb : HB w1 b1 ⟨k, x, y, s, l, e, o, t⟩ := ⟨hV1⟩; obtain ⟨c0, c1, c2, c3, c4, c5, c6, c7⟩ := hb.cells) | (go_at_call 37; refine (implHeapOk_any H _ hi _ (by omega) (R.out.below hB1 hh)).mono ?_; rintro er w2 ⟨rfl, hB2⟩; rw [F0.out]; have hz2 := hB2.size; replace hb := hb.of (hB2.block b1 (by omega)); clear c0 c1 c2 c3 c4 c5 c6 c7; obtain ⟨c0, c1, c2, c3, c4, c5, c6, c7⟩ := hb.cells; have hB : Below w.heap.size w w2 := hB1.trans (hB2.mono (by omega))) | (go_at_call 38; refine (asksRight_any ⟨k, x, y, s, l, e, o, t⟩ _).mono ?_; rintro er w3 ⟨rfl, hB3⟩; rw [F1.out]; have hz3 := hB3.size; replace hb := hb.of (hB3.block b1 (by omega)); clear c0 c1 c2 c3 c4 c5 c6 c7; obtain ⟨c0, c1, c2, c3, c4, c5, c6, c7⟩ := hb.cells; have hB : Below w.heap.size w w3 := hB.trans (hB3.mono (by omega))) | (go_at_call 39; refine (stepRight_any ⟨k, x, y, s, l, e, o, t⟩ _).mono ?_; rintro er w4 ⟨rfl, hB4⟩; rw [F2.out]; have hz4 := hB4.size; replace hb := hb.of (hB4.block b1 (by omega)); clear c0 c1 c2 c3 c4 c5 c6 c7; obtain ⟨c0, c1, c2, c3, c4, c5, c6, c7⟩ := hb.cells; have hB : Below w.heap.size w w4 := hB.trans (hB4.mono (by omega))) | (go_at_call 40; refine (toldRight_any ⟨k, x, y, s, l, e, o, t⟩ _).mono ?_; rintro er w5 ⟨rfl, hB5⟩; rw [F3.out]; have hz5 := hB5.size; replace hb := hb.of (hB5.block b1 (by omega)); clear c0 c1 c2 c3 c4 c5 c6 c7; obtain ⟨c0, c1, c2, c3, c4, c5, c6, c7⟩ := hb.cells; have hB : Below w.heap.size w w5 := hB.trans (hB5.mono (by omega))) | (go_at_call 41; refine (leftRight_any H HO.out ⟨k, x, y, s, l, e, o, t⟩ _ hi _ (by omega) (R.out.below hB hh)).mono ?_; rintro er w6 ⟨rfl, hB6⟩; rw [F4.out]; have hz6 := hB6.size; replace hb := hb.of (hB6.block b1 (by omega)); clear c0 c1 c2 c3 c4 c5 c6 c7; obtain ⟨c0, c1, c2, c3, c4, c5, c6, c7⟩ := hb.cells; have hB : Below w.heap.size w w6 := hB.trans (hB6.mono (by omega))) | (go_at_call 42; refine (hereRight_any H HO.out ⟨k, x, y, s, l, e, o, t⟩ _ hi _ (by omega) (R.out.below hB hh)).mono ?_; rintro er w7 ⟨rfl, hB7⟩; rw [F5.out]; have hz7 := hB7.size; replace hb := hb.of (hB7.block b1 (by omega)); clear c0 c1 c2 c3 c4 c5 c6 c7; obtain ⟨c0, c1, c2, c3, c4, c5, c6, c7⟩ := hb.cells; have hB : Below w.heap.size w w7 := hB.trans (hB7.mono (by omega))) | (go_at_call 43; refine (ownRight_any H HO.out ⟨k, x, y, s, l, e, o, t⟩ _ hi _ (by omega) (R.out.below hB hh)).mono ?_; rintro er w8 ⟨rfl, hB8⟩; rw [F6.out]; have hz8 := hB8.size; replace hb := hb.of (hB8.block b1 (by omega)); clear c0 c1 c2 c3 c4 c5 c6 c7; obtain ⟨c0, c1, c2, c3, c4, c5, c6, c7⟩ := hb.cells; have hB : Below w.heap.size w w8 := hB.trans (hB8.mono (by omega))) | (fail))
              go_ret
              exact ⟨rfl, hB⟩
end Go.Proofs.Ytodpbghkjnlfdaa.ce
