/- Contract: the program's played. -/
import Derived.Test.YtodpbghkjnlfdaaPl10
namespace Go.Proofs.Ytodpbghkjnlfdaa.ce
open Go.ChangeShapes Go.WideShapes Go.ChangeAt Go.RowKit
set_option linter.unusedVariables false

noncomputable def playC (n : Nat) (H : List C) (d : Hd) : List C × Hd := if handB H d = true then runC n H d else ([], ⟨0, 0, 0, 0, 0, 0, 0, 0⟩)

set_option maxRecDepth 100000 in
set_option maxHeartbeats 4000000 in
theorem implPlayed_any (n : Nat) (hn : n ≤ 1000) (H : List C) (d : Hd) (v : Value) (hi : Nat) (w : World) (hh : hi ≤ w.heap.size) (r : Rd w hi v H) :
    Calls Try.prog 49 #[v, .agg (hv d).toArray, .int .i64 (n : Int)] w fun e w' => ∃ v', e = .returned (.tuple #[v', .agg (hv (playC n H d).2).toArray]) ∧ Own w' w.heap.size w'.heap.size v' (playC n H d).1 ∧ Below w.heap.size w w' := by
  obtain ⟨a, cap, rfl⟩ := r.form
  have R : Hid (Rd w hi (.slice a H.length cap) H) := r
  clear r
  cases hB0 : handB H d with
  | false =>
    rw [show playC n H d = ([], ⟨0, 0, 0, 0, 0, 0, 0, 0⟩) from if_neg (by rw [hB0]; simp)]
    obtain ⟨k, x, y, s, l, e, o, t⟩ := d
    have HBD : Hid (handB H ⟨k, x, y, s, l, e, o, t⟩ = false) := hB0
    clear hB0
    go_enter Try.func49, Try.ntmps49
    go_wp2_with (first | (refine wpList_box_v rfl 29 _ rfl (hv ⟨k, x, y, s, l, e, o, t⟩) rfl ?_; intro b4 w1 hb4 hw1 hB1 hV1; have hz1 := hB1.size) | (refine wpList_alloc_v rfl 29 rfl _ zeroH ?_; intro b7 w2 hb7 hw2 hB2 hV2; have hz2 := hB2.size; have hb : HB w2 b4 ⟨k, x, y, s, l, e, o, t⟩ := ⟨hV1.below hB2 hw1⟩; have hr7 : HB w2 b7 ⟨0, 0, 0, 0, 0, 0, 0, 0⟩ := ⟨hV2⟩; have hB : Below w.heap.size w w2 := hB1.trans (hB2.mono hz1); clear hV1 hV2; obtain ⟨c0, c1, c2, c3, c4, c5, c6, c7⟩ := hb.cells) | (fail))
    refine wp_scope_all ?_
    go_wp2_with (first | (go_at_call 13; refine (implHandOk_any H ⟨k, x, y, s, l, e, o, t⟩ _ hi _ (by omega) (R.out.below hB hh)).mono ?_; rintro er w3 ⟨rfl, hB3⟩; rw [HBD.out]; have hz3 := hB3.size; replace hb := hb.of (hB3.block b4 (by omega)); replace hr7 := hr7.of (hB3.block b7 (by omega)); replace hB := hB.trans (hB3.mono (by omega))) | (refine wpList_store_v rfl 29 _ _ rfl b7 (hv ⟨0, 0, 0, 0, 0, 0, 0, 0⟩) rfl rfl sizeH hr7.blk rfl (hv_one _) ?_; intro w4 hO4 hV4; have hz4 := hO4.1) | (fail))
    refine scoped_ret (row_tmp_cell rfl rfl rfl hV4 Try.underlying29 sizeH rfl ⟨_, rfl, ?_, hB.trans (hO4.2.2 _ (by omega))⟩)
    exact own_none _ _ _
  | true =>
    rw [show playC n H d = runC n H d from if_pos hB0]
    have hok : heapOk H := by unfold handB at hB0; by_cases z : heapOk H; (· exact z); (· rw [if_neg z] at hB0; cases hB0)
    have ok : OkH H d := by rw [handB_pos hok] at hB0; exact okB_iff.1 hB0
    have HO : Hid (heapOk H) := hok
    have OK : Hid (OkH H d) := ok
    have h1 := hok.1.1
    have h2 : H.length ≤ 1048576 := by have := hok.1.2; omega
    clear hok ok
    obtain ⟨k, x, y, s, l, e, o, t⟩ := d
    have HBD : Hid (handB H ⟨k, x, y, s, l, e, o, t⟩ = true) := hB0
    obtain ⟨Z, hZ⟩ := hid_ex (runC n H ⟨k, x, y, s, l, e, o, t⟩)
    rw [hZ.out]
    clear hB0
    go_enter Try.func49, Try.ntmps49
    go_wp2_with (first | (refine wpList_box_v rfl 29 _ rfl (hv ⟨k, x, y, s, l, e, o, t⟩) rfl ?_; intro b4 w1 hb4 hw1 hB1 hV1; have hz1 := hB1.size) | (refine wpList_alloc_v rfl 29 rfl _ zeroH ?_; intro b7 w2 hb7 hw2 hB2 hV2; have hz2 := hB2.size; have hb : HB w2 b4 ⟨k, x, y, s, l, e, o, t⟩ := ⟨hV1.below hB2 hw1⟩; have hr7 : HB w2 b7 ⟨0, 0, 0, 0, 0, 0, 0, 0⟩ := ⟨hV2⟩; have hB : Below w.heap.size w w2 := hB1.trans (hB2.mono hz1); clear hV1 hV2; obtain ⟨c0, c1, c2, c3, c4, c5, c6, c7⟩ := hb.cells) | (fail))
    refine wp_scope_all ?_
    go_wp2_with (first | (go_at_call 13; refine (implHandOk_any H ⟨k, x, y, s, l, e, o, t⟩ _ hi _ (by omega) (R.out.below hB hh)).mono ?_; rintro er w3 ⟨rfl, hB3⟩; rw [HBD.out]; have hz3 := hB3.size; replace hb := hb.of (hB3.block b4 (by omega)); replace hr7 := hr7.of (hB3.block b7 (by omega)); replace hB := hB.trans (hB3.mono (by omega))) | (go_at_call 71; refine (copied_any H _ hi _ (by omega) (R.out.below hB hh) h1 h2).mono ?_; rintro er w4 ⟨v4, rfl, hO4, hB4⟩; have p4 : Pm w w4 b4 b7 v4 H ⟨k, x, y, s, l, e, o, t⟩ := ⟨⟨_, by omega, by omega, hO4⟩, hb.of (hB4.block b4 (by omega)), hr7.of (hB4.block b7 (by omega)), by omega, by omega, by omega, hB.trans (hB4.mono (by omega))⟩) | (fail))
    go_step3
    rename_i K hK
    refine hK _ _ ?_
    exact passAll w b4 b7 _ _ rfl n hn H ⟨k, x, y, s, l, e, o, t⟩ HO.out OK.out w4 v4 _ _ _ _ _ _ _ _ _ _ _ _ _ _ _ _ _ _ _ _ _ _ _ _ _ _ _ _ _ _ _ _ _ _ _ _ _ _ _ _ _ _ _ _ _ _ _ _ _ _ _ _ _ _ _ _ _ _ _ _ _ _ _ _ _ _ _ _ _ _ _ _ _ _ _ _ _ _ _ _ _ _ _ _ _ _ _ _ _ _ _ _ _ _ _ _ _ _ _ _ _ _ _ _ _ _ _ _ _ _ _ _ _ _ _ _ _ _ _ _ _ _ _ _ _ _ _ _ _ _ _ _ _ _ _ _ _ _ _ _ _ p4 (by rw [hZ.out]; exact fun v' w' z1 z2 => ⟨v', rfl, z1, z2⟩)

theorem implMoved_any' (H : List C) (d : Hd) (v : Value) (hi : Nat) (w : World) (hh : hi ≤ w.heap.size) (r : Rd w hi v H) :
    Calls Try.prog 19 #[v, .agg (hv d).toArray] w fun e w' => ∃ v', e = .returned (.tuple #[v', .agg (hv (playC 1 H d).2).toArray]) ∧ Own w' w.heap.size w'.heap.size v' (playC 1 H d).1 ∧ Below w.heap.size w w' := by
  obtain ⟨a, cap, rfl⟩ := r.form
  have R : Hid (Rd w hi (.slice a H.length cap) H) := r
  clear r
  obtain ⟨k, x, y, s, l, e, o, t⟩ := d
  obtain ⟨⟨L, ⟨k9, x9, y9, s9, l9, e9, o9, t9⟩⟩, PZ⟩ := hid_ex (playC 1 H ⟨k, x, y, s, l, e, o, t⟩)
  rw [PZ.out]
  go_enter Try.func19, Try.ntmps19
  go_wp2_with (first | (refine wpList_box_v rfl 29 _ rfl (hv ⟨k, x, y, s, l, e, o, t⟩) rfl ?_; intro b3 w1 hb3 hw1 hB1 hV1; have hz1 := hB1.size) | (refine wpList_alloc_v rfl 29 rfl _ zeroH ?_; intro b5 w2 hb5 hw2 hB2 hV2; have hz2 := hB2.size; have hb : HB w2 b3 ⟨k, x, y, s, l, e, o, t⟩ := ⟨hV1.below hB2 hw1⟩; have hr5 : HB w2 b5 ⟨0, 0, 0, 0, 0, 0, 0, 0⟩ := ⟨hV2⟩; have hB : Below w.heap.size w w2 := hB1.trans (hB2.mono hz1); clear hV1 hV2; obtain ⟨c0, c1, c2, c3, c4, c5, c6, c7⟩ := hb.cells) | (go_at_call 49; refine (implPlayed_any 1 (by omega) H ⟨k, x, y, s, l, e, o, t⟩ _ hi _ (by omega) (R.out.below hB hh)).mono ?_; rintro er w3 ⟨v', he, hO', hB3⟩; rw [PZ.out] at he hO'; subst he; dsimp only [hv]; have hz3 := hB3.size; replace hr5 := hr5.of (hB3.block b5 (by omega)); replace hB := hB.trans (hB3.mono (by omega))) | (refine wpList_store_v rfl 29 _ _ rfl b5 (hv ⟨k9, x9, y9, s9, l9, e9, o9, t9⟩) rfl rfl sizeH hr5.blk rfl (hv_one _) ?_; intro w4 hO4 hV4; have hz4 := hO4.1) | (fail))
  exact row_tmp_cell rfl rfl rfl hV4 Try.underlying29 sizeH rfl ⟨_, rfl, (hO'.only hO4 (by omega)).wide (by omega) (by omega), hB.trans (hO4.2.2 _ (by omega))⟩
theorem implAlone_any' (H : List C) (d : Hd) (v : Value) (hi : Nat) (w : World) (hh : hi ≤ w.heap.size) (r : Rd w hi v H) :
    Calls Try.prog 23 #[v, .agg (hv d).toArray] w fun e w' => ∃ v', e = .returned (.tuple #[v', .agg (hv (playC 400 H d).2).toArray]) ∧ Own w' w.heap.size w'.heap.size v' (playC 400 H d).1 ∧ Below w.heap.size w w' := by
  obtain ⟨a, cap, rfl⟩ := r.form
  have R : Hid (Rd w hi (.slice a H.length cap) H) := r
  clear r
  obtain ⟨k, x, y, s, l, e, o, t⟩ := d
  obtain ⟨⟨L, ⟨k9, x9, y9, s9, l9, e9, o9, t9⟩⟩, PZ⟩ := hid_ex (playC 400 H ⟨k, x, y, s, l, e, o, t⟩)
  rw [PZ.out]
  go_enter Try.func23, Try.ntmps23
  go_wp2_with (first | (refine wpList_box_v rfl 29 _ rfl (hv ⟨k, x, y, s, l, e, o, t⟩) rfl ?_; intro b3 w1 hb3 hw1 hB1 hV1; have hz1 := hB1.size) | (refine wpList_alloc_v rfl 29 rfl _ zeroH ?_; intro b5 w2 hb5 hw2 hB2 hV2; have hz2 := hB2.size; have hb : HB w2 b3 ⟨k, x, y, s, l, e, o, t⟩ := ⟨hV1.below hB2 hw1⟩; have hr5 : HB w2 b5 ⟨0, 0, 0, 0, 0, 0, 0, 0⟩ := ⟨hV2⟩; have hB : Below w.heap.size w w2 := hB1.trans (hB2.mono hz1); clear hV1 hV2; obtain ⟨c0, c1, c2, c3, c4, c5, c6, c7⟩ := hb.cells) | (go_at_call 49; refine (implPlayed_any 400 (by omega) H ⟨k, x, y, s, l, e, o, t⟩ _ hi _ (by omega) (R.out.below hB hh)).mono ?_; rintro er w3 ⟨v', he, hO', hB3⟩; rw [PZ.out] at he hO'; subst he; dsimp only [hv]; have hz3 := hB3.size; replace hr5 := hr5.of (hB3.block b5 (by omega)); replace hB := hB.trans (hB3.mono (by omega))) | (refine wpList_store_v rfl 29 _ _ rfl b5 (hv ⟨k9, x9, y9, s9, l9, e9, o9, t9⟩) rfl rfl sizeH hr5.blk rfl (hv_one _) ?_; intro w4 hO4 hV4; have hz4 := hO4.1) | (fail))
  exact row_tmp_cell rfl rfl rfl hV4 Try.underlying29 sizeH rfl ⟨_, rfl, (hO'.only hO4 (by omega)).wide (by omega) (by omega), hB.trans (hO4.2.2 _ (by omega))⟩
end Go.Proofs.Ytodpbghkjnlfdaa.ce
