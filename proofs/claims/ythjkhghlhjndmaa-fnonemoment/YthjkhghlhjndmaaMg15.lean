/- Texts laid together: Pl3 Pl4 Pl5 Pl6 Pl7. -/
import Derived.Test.YthjkhghlhjndmaaMg07
import Derived.Test.YthjkhghlhjndmaaMg04
import Derived.Test.YthjkhghlhjndmaaMg14
import Derived.Deep.RegionHeld3
import Derived.BigQuiet
/- Contract: the program's owned. -/
namespace Go.Proofs.Ythjkhghlhjndmaa.ce
open Go.ChangeShapes Go.WideShapes Go.ChangeAt Go.RowKit
set_option linter.unusedVariables false

theorem put_swapOk {H : List C} {d : Hd} (hok : heapOk H) (ok : OkH H d) (hs : d.step = 2) (ho : d.own ≠ -1) (hf : ¬ found H d) : swapOk H d.own (nth H d.own).next d.here := by
  rcases ok.own' (by omega) with q | ⟨a, b, c, e, f, g, i⟩
  · exact absurd q ho
  refine ⟨⟨⟨by omega, b.2⟩, g, rfl⟩, ?_⟩
  rw [c]
  have hw := (ok.way (by omega)).2.2
  have ha := ok.act hs
  rcases hw with q | q
  · exact .inl q
  · refine .inr ⟨⟨by omega, q.2⟩, ?_⟩
    have hth : there H d = (nth H d.here).key := if_pos (by omega)
    rw [hth] at ha
    have : ¬ (nth H d.here).key = d.key := fun z => hf ⟨by omega, z⟩
    omega

set_option maxHeartbeats 2000000 in
theorem implOwned_any (H : List C) (d : Hd) (hok : heapOk H) (ok : OkH H d) (hs : d.step = 2) (hf : ¬ found H d) (v : Value) (hi : Nat) (w : World) (hh : hi ≤ w.heap.size) (r : Rd w hi v H) :
    Calls Try.prog 136 #[v, .agg (hv d).toArray] w fun e w' => ∃ v', e = .returned (.tuple #[v', .agg (hv (movePut H d).2).toArray]) ∧ Own w' w.heap.size w'.heap.size v' (movePut H d).1 ∧ Below w.heap.size w w' := by
  obtain ⟨a, cap, rfl⟩ := r.form
  have R : Hid (Rd w hi (.slice a H.length cap) H) := r
  clear r
  have SW := put_swapOk hok ok hs
  have hlo0 : d.own = -1 ∨ 1 ≤ d.own ∧ d.own < (H.length : Int) := by rcases ok.own with q | q; (· exact .inl q); (· exact .inr q.2.1)
  obtain ⟨k, x, y, s, l, e, o, t⟩ := d
  simp only [] at SW hlo0
  have es : s = 2 := hs
  subst es
  by_cases ho : o = -1
  · have go : (o == -1) = true := by simpa using ho
    by_cases hn : freshN H x y e < 0
    · have hn1 : freshN H x y e = -1 := by unfold freshN at hn ⊢; split at hn <;> (try split at hn) <;> simp_all <;> omega
      have FN : Hid (freshN H x y e = -1) := hn1
      have FH : Hid (freshH H x y e = H) := by unfold Hid freshH; rw [if_pos hok]; unfold freshN at hn1; rw [if_pos hok] at hn1; split at hn1; (· omega); (· rename_i q; rw [if_neg q])
      have MP : Hid (movePut H ⟨k, x, y, 2, l, e, o, t⟩ = (H, ⟨k, x, y, 5, -1, -1, -1, 2⟩)) := by unfold Hid movePut; rw [if_pos (by show o < 0; omega), if_pos hn]; simp [doneD, ho]
      rw [MP.out]
      clear hok ok hs hf SW hlo0 ho hn hn1
      have m1 : Hid True := trivial
      go_enter Try.func136, Try.ntmps136
      go_wp2_with (first | (refine wpList_box_v rfl 58 _ rfl (hv ⟨k, x, y, 2, l, e, o, t⟩) rfl ?_; intro b3 w1 hb3 hw1 hB1 hV1; have hz1 := hB1.size) | (refine wpList_alloc_v rfl 58 rfl _ zeroH ?_; intro b5 w2 hb5 hw2 hB2 hV2; have hz2 := hB2.size; have hb : HB w2 b3 ⟨k, x, y, 2, l, e, o, t⟩ := ⟨hV1.below hB2 hw1⟩; have hr5 : HB w2 b5 ⟨0, 0, 0, 0, 0, 0, 0, 0⟩ := ⟨hV2⟩; have hB : Below w.heap.size w w2 := hB1.trans (hB2.mono hz1); clear hV1 hV2; obtain ⟨c0, c1, c2, c3, c4, c5, c6, c7⟩ := hb.cells) | (go_at_call 137; refine (implFresh_any H x y e _ hi _ (by omega) (R.out.below hB hh)).mono ?_; rintro er w3 ⟨v', he, hO', hB3⟩; rw [FN.out] at he; rw [FH.out] at hO'; subst he; have hz3 := hB3.size; replace hb := hb.of (hB3.block b3 (by omega)); replace hr5 := hr5.of (hB3.block b5 (by omega)); clear c0 c1 c2 c3 c4 c5 c6 c7; obtain ⟨c0, c1, c2, c3, c4, c5, c6, c7⟩ := hb.cells; replace hB := hB.trans (hB3.mono (by omega)); have hlo : w.heap.size ≤ w2.heap.size := (by omega)) | (refine wpList_store_f rfl _ _ rfl b3 6 (-1) rfl rfl ⟨k, x, y, 2, l, e, -1, t⟩ (by omega) hb rfl ?_; intro w4 hO4 hb4; have hz4 := hO4.1; replace hb := hb4; clear hb4; clear c0 c1 c2 c3 c4 c5 c6 c7; obtain ⟨c0, c1, c2, c3, c4, c5, c6, c7⟩ := hb.cells; replace hr5 := hr5.of (hO4.2.1 b5 (by omega)); replace hB := hB.trans (hO4.2.2 _ (by omega)); replace hO' := hO'.only hO4 (by omega)) | (go_at_call 134; refine (rested_any ⟨k, x, y, 2, l, e, -1, t⟩ 5 2 _).mono ?_; rintro er w5 ⟨rfl, hB5⟩; have hz5 := hB5.size; dsimp only [restD, hv]; replace hr5 := hr5.of (hB5.block b5 (by omega)); replace hB := hB.trans (hB5.mono (by omega)); replace hO' := hO'.below hB5 (by omega)) | (refine wpList_store_v rfl 58 _ _ rfl b5 (hv ⟨k, x, y, 5, -1, -1, -1, 2⟩) rfl rfl sizeH hr5.blk rfl (hv_one _) ?_; intro w6 hO6 hV6; have hz6 := hO6.1) | (fail))
      refine row_tmp_cell rfl rfl rfl hV6 Try.underlying58 sizeH rfl ⟨_, rfl, (hO'.only hO6 (by omega)).wide (by omega) (by omega), hB.trans (hO6.2.2 _ (by omega))⟩
    · have hN : freshN H x y e = (H.length : Int) := by unfold freshN at hn ⊢; split at hn <;> (try split at hn) <;> simp_all
      have FN : Hid (freshN H x y e = (H.length : Int)) := hN
      obtain ⟨L, FH⟩ := hid_ex (freshH H x y e)
      have MP : Hid (movePut H ⟨k, x, y, 2, l, e, o, t⟩ = (L, ⟨k, x, y, 3, l, e, (H.length : Int), t⟩)) := by unfold Hid movePut; rw [if_pos (by show o < 0; omega), if_neg hn]; simp [FH.out, hN]
      rw [MP.out]
      clear hok ok hs hf SW hlo0 ho hn hN
      have gn : (((H.length : Int)) == -1) = false := by simp
      go_enter Try.func136, Try.ntmps136
      go_wp2_with (first | (refine wpList_box_v rfl 58 _ rfl (hv ⟨k, x, y, 2, l, e, o, t⟩) rfl ?_; intro b3 w1 hb3 hw1 hB1 hV1; have hz1 := hB1.size) | (refine wpList_alloc_v rfl 58 rfl _ zeroH ?_; intro b5 w2 hb5 hw2 hB2 hV2; have hz2 := hB2.size; have hb : HB w2 b3 ⟨k, x, y, 2, l, e, o, t⟩ := ⟨hV1.below hB2 hw1⟩; have hr5 : HB w2 b5 ⟨0, 0, 0, 0, 0, 0, 0, 0⟩ := ⟨hV2⟩; have hB : Below w.heap.size w w2 := hB1.trans (hB2.mono hz1); clear hV1 hV2; obtain ⟨c0, c1, c2, c3, c4, c5, c6, c7⟩ := hb.cells) | (go_at_call 137; refine (implFresh_any H x y e _ hi _ (by omega) (R.out.below hB hh)).mono ?_; rintro er w3 ⟨v', he, hO', hB3⟩; rw [FN.out] at he; rw [FH.out] at hO'; subst he; have hz3 := hB3.size; replace hb := hb.of (hB3.block b3 (by omega)); replace hr5 := hr5.of (hB3.block b5 (by omega)); clear c0 c1 c2 c3 c4 c5 c6 c7; obtain ⟨c0, c1, c2, c3, c4, c5, c6, c7⟩ := hb.cells; replace hB := hB.trans (hB3.mono (by omega)); have hlo : w.heap.size ≤ w2.heap.size := (by omega)) | (refine wpList_store_f rfl _ _ rfl b3 6 ((H.length : Int)) rfl rfl ⟨k, x, y, 2, l, e, (H.length : Int), t⟩ (by omega) hb rfl ?_; intro w4 hO4 hb4; have hz4 := hO4.1; replace hb := hb4; clear hb4; clear c0 c1 c2 c3 c4 c5 c6 c7; obtain ⟨c0, c1, c2, c3, c4, c5, c6, c7⟩ := hb.cells; replace hr5 := hr5.of (hO4.2.1 b5 (by omega)); replace hB := hB.trans (hO4.2.2 _ (by omega)); replace hO' := hO'.only hO4 (by omega)) | (refine wpList_store_f rfl _ _ rfl b3 3 (3) rfl rfl ⟨k, x, y, 3, l, e, (H.length : Int), t⟩ (by omega) hb rfl ?_; intro w5 hO5 hb5; have hz5 := hO5.1; replace hb := hb5; clear hb5; clear c0 c1 c2 c3 c4 c5 c6 c7; obtain ⟨c0, c1, c2, c3, c4, c5, c6, c7⟩ := hb.cells; replace hr5 := hr5.of (hO5.2.1 b5 (by omega)); replace hB := hB.trans (hO5.2.2 _ (by omega)); replace hO' := hO'.only hO5 (by omega)) | (fail))
      have S0 := hb.drew.cells
      obtain ⟨q0, q1, q2, q3, q4, q5, q6, q7⟩ := hr5.cells
      obtain ⟨g0, g1, g2, g3, g4, g5, g6, g7⟩ := hr5.fz
      have HR : Hid (HB w5 b5 ⟨0, 0, 0, 0, 0, 0, 0, 0⟩) := hr5
      clear hr5
      go_region
      go_wp2
      obtain ⟨hb8, hO8⟩ := fill8 HR.out (k) (x) (y) (3) (l) (e) ((H.length : Int)) (t)
      refine row_tmp_cell rfl rfl rfl hb8.blk Try.underlying58 sizeH rfl ⟨_, rfl, (hO'.only hO8 (by omega)).wide (by omega) (by have := hO8.1; omega), hB.trans (hO8.2.2 _ (by omega))⟩
  · have go : (o == -1) = false := by simpa using ho
    have hr := hlo0.resolve_left ho
    obtain ⟨i, rfl⟩ : ∃ i : Nat, o = i := ⟨o.toNat, by omega⟩
    have hi1 : i < H.length := by omega
    have hi1' : (i : Int) < H.length := by omega
    have en := nth_nat H i hi1
    have hsw := SW ho hf
    rw [en] at hsw
    obtain ⟨b, off, rfl, hbh, -, -, e2, -⟩ := R.out.cell i hi1
    obtain ⟨q, hq⟩ := hid_ex (H[i].next)
    rw [hq.out] at e2 hsw
    have SB : Hid (swappedB H (i : Int) q e = true) := by unfold Hid swappedB; rw [if_pos hok]; exact decide_eq_true hsw
    have SH : Hid (swappedH H (i : Int) q e = swapH H (i : Int) e) := by unfold Hid swappedH swap1; rw [if_pos hok, if_pos hsw]
    have MP : Hid (movePut H ⟨k, x, y, 2, l, e, (i : Int), t⟩ = (swapH H (i : Int) e, ⟨k, x, y, 3, l, e, (i : Int), t⟩)) := by unfold Hid movePut; rw [if_neg (by show ¬ (i : Int) < 0; omega)]
    rw [MP.out]
    clear hok ok hs hf SW hlo0 ho hr hsw
    go_enter Try.func136, Try.ntmps136
    go_wp2_with (first | (refine wpList_box_v rfl 58 _ rfl (hv ⟨k, x, y, 2, l, e, (i : Int), t⟩) rfl ?_; intro b3 w1 hb3 hw1 hB1 hV1; have hz1 := hB1.size) | (refine wpList_alloc_v rfl 58 rfl _ zeroH ?_; intro b5 w2 hb5 hw2 hB2 hV2; have hz2 := hB2.size; have hb : HB w2 b3 ⟨k, x, y, 2, l, e, (i : Int), t⟩ := ⟨hV1.below hB2 hw1⟩; have hr5 : HB w2 b5 ⟨0, 0, 0, 0, 0, 0, 0, 0⟩ := ⟨hV2⟩; have hB : Below w.heap.size w w2 := hB1.trans (hB2.mono hz1); clear hV1 hV2; obtain ⟨c0, c1, c2, c3, c4, c5, c6, c7⟩ := hb.cells) | (fail))
    have f2 : w2.drew.cell? ⟨b, off + i * 4 + 2, none⟩ = some (.int .i64 q) := (World.cell?_of_block (w := w) (w' := w2.drew) (a := ⟨b, off + i * 4 + 2, none⟩) (hB.drew.block b (by omega))).trans e2
    have S0 : w2.drew.cell? ⟨b3, 6, none⟩ = some (.int .i64 (i : Int)) ∧ w2.drew.cell? ⟨b3, 5, none⟩ = some (.int .i64 e) ∧ w2.drew.cell? ⟨b, off + i * 4 + 2, none⟩ = some (.int .i64 q) := ⟨c6, c5, f2⟩
    go_region_held3 (fun w' => w'.cell? ⟨b3, 6, none⟩ = some (.int .i64 (i : Int)) ∧ w'.cell? ⟨b3, 5, none⟩ = some (.int .i64 e) ∧ w'.cell? ⟨b, off + i * 4 + 2, none⟩ = some (.int .i64 q)) (first | assumption | exact S0 | (fail)) (first | (go_at_call 131; refine (implSwapped_any H (i : Int) q e _ hi w2.drew (by show hi ≤ w2.heap.size; omega) (R.out.below hB.drew hh)).mono ?_; rintro er w3 ⟨v', he, hO', hB3⟩; rw [SB.out] at he; rw [SH.out] at hO'; subst he; have hz3 : w2.heap.size ≤ w3.heap.size := hB3.size; replace hb := hb.of (w' := w3) (hB3.block b3 (by show b3 < w2.heap.size; omega)); replace hr5 := hr5.of (w' := w3) (hB3.block b5 (by show b5 < w2.heap.size; omega)); have f3 := (World.cell?_of_block (w := w2.drew) (w' := w3) (a := ⟨b, off + i * 4 + 2, none⟩) (hB3.block b (by show b < w2.heap.size; omega))).trans f2; clear c0 c1 c2 c3 c4 c5 c6 c7; obtain ⟨c0, c1, c2, c3, c4, c5, c6, c7⟩ := hb.cells; replace hB := hB.drew.trans (hB3.mono (by show w.heap.size ≤ w2.heap.size; omega)); have S3 := And.intro c6 (And.intro c5 f3)) | (fail))
    have hO' : Own w3 w2.heap.size w3.heap.size v' (swapH H (i : Int) e) := hO'
    go_wp2_with (first | (refine wpList_store_f rfl _ _ rfl b3 3 (3) rfl rfl ⟨k, x, y, 3, l, e, (i : Int), t⟩ (by omega) hb rfl ?_; intro w4 hO4 hb4; have hz4 := hO4.1; replace hb := hb4; clear hb4; clear c0 c1 c2 c3 c4 c5 c6 c7; obtain ⟨c0, c1, c2, c3, c4, c5, c6, c7⟩ := hb.cells; replace hr5 := hr5.of (hO4.2.1 b5 (by omega)); replace hB := hB.trans (hO4.2.2 _ (by omega)); replace hO' := hO'.only hO4 (by omega)) | (fail))
    have S0 := hb.drew.cells
    obtain ⟨q0, q1, q2, q3, q4, q5, q6, q7⟩ := hr5.cells
    obtain ⟨g0, g1, g2, g3, g4, g5, g6, g7⟩ := hr5.fz
    have HR : Hid (HB w4 b5 ⟨0, 0, 0, 0, 0, 0, 0, 0⟩) := hr5
    clear hr5
    go_region
    go_wp2
    obtain ⟨hb8, hO8⟩ := fill8 HR.out (k) (x) (y) (3) (l) (e) ((i : Int)) (t)
    refine row_tmp_cell rfl rfl rfl hb8.blk Try.underlying58 sizeH rfl ⟨_, rfl, (hO'.only hO8 (by omega)).wide (by omega) (by have := hO8.1; omega), hB.trans (hO8.2.2 _ (by omega))⟩
end Go.Proofs.Ythjkhghlhjndmaa.ce
/- Contract: the program's acted. -/
namespace Go.Proofs.Ythjkhghlhjndmaa.ce
open Go.ChangeShapes Go.WideShapes Go.ChangeAt Go.RowKit
set_option linter.unusedVariables false

set_option maxRecDepth 100000 in
set_option maxHeartbeats 4000000 in
theorem implActed_any (H : List C) (d : Hd) (hok : heapOk H) (ok : OkH H d) (hs : d.step = 2) (v : Value) (hi : Nat) (w : World) (hh : hi ≤ w.heap.size) (r : Rd w hi v H) :
    Calls Try.prog 132 #[v, .agg (hv d).toArray] w fun e w' => ∃ v', e = .returned (.tuple #[v', .agg (hv (moveA H d).2).toArray]) ∧ ((v' = v ∧ (moveA H d).1 = H) ∨ Own w' w.heap.size w'.heap.size v' (moveA H d).1) ∧ Below w.heap.size w w' := by
  obtain ⟨a, cap, rfl⟩ := r.form
  have R : Hid (Rd w hi (.slice a H.length cap) H) := r
  clear r
  have hk := ok.kind
  have hw := (ok.way (by omega)).2.2
  obtain ⟨k, x, y, s, l, e, o, t⟩ := d
  simp only [] at hk hw
  have es : s = 2 := hs
  subst es
  clear hs
  rcases hw with rfl | hw
  · have hfd : ¬ found H ⟨k, x, y, 2, l, -1, o, t⟩ := fun q => by have := q.1; simp at this
    have HO : Hid (heapOk H) := hok
    have OK : Hid (OkH H ⟨k, x, y, 2, l, -1, o, t⟩) := ok
    clear hok ok
    rcases (by omega : k = 1 ∨ k = 2 ∨ k = 3) with rfl | rfl | rfl
    · have MA : Hid (moveA H ⟨1, x, y, 2, l, -1, o, t⟩ = movePut H ⟨1, x, y, 2, l, -1, o, t⟩) := by unfold Hid moveA; simp [hfd]
      rw [MA.out]
      obtain ⟨⟨L, ⟨k9, x9, y9, s9, l9, e9, o9, t9⟩⟩, MP⟩ := hid_ex (movePut H ⟨1, x, y, 2, l, -1, o, t⟩)
      rw [MP.out]
      have NF : Hid (¬ found H ⟨1, x, y, 2, l, -1, o, t⟩) := hfd
      clear hfd hk
      go_enter Try.func132, Try.ntmps132
      go_wp2_with (first | (refine wpList_box_v rfl 58 _ rfl (hv ⟨1, x, y, 2, l, -1, o, t⟩) rfl ?_; intro b3 w1 hb3 hw1 hB1 hV1; have hz1 := hB1.size) | (refine wpList_alloc_v rfl 58 rfl _ zeroH ?_; intro b5 w2 hb5 hw2 hB2 hV2; have hz2 := hB2.size; have hb : HB w2 b3 ⟨1, x, y, 2, l, -1, o, t⟩ := ⟨hV1.below hB2 hw1⟩; have hr5 : HB w2 b5 ⟨0, 0, 0, 0, 0, 0, 0, 0⟩ := ⟨hV2⟩; have hB : Below w.heap.size w w2 := hB1.trans (hB2.mono hz1); clear hV1 hV2; obtain ⟨c0, c1, c2, c3, c4, c5, c6, c7⟩ := hb.cells) | (fail))
      try go_frame
      go_big_quiet (fail)
      have hbW : HB (w2.drewN nq) b3 ⟨1, x, y, 2, l, -1, o, t⟩ := hb.of rfl
      have hrW : HB (w2.drewN nq) b5 ⟨0, 0, 0, 0, 0, 0, 0, 0⟩ := hr5.of rfl
      have hBW : Below w.heap.size w (w2.drewN nq) := hB.trans (below_drewN _ _)
      have hzW : (w2.drewN nq).heap.size = w2.heap.size := rfl
      obtain ⟨w3, hW⟩ : ∃ W, w2.drewN nq = W := ⟨_, rfl⟩
      rw [hW] at hbW hrW hBW hzW ⊢
      clear hb hr5 hB c0 c1 c2 c3 c4 c5 c6 c7 hW
      have hb := hbW; have hr5 := hrW; have hB := hBW; clear hbW hrW hBW
      obtain ⟨c0, c1, c2, c3, c4, c5, c6, c7⟩ := hb.cells
      go_wp2_with (first | (go_at_call 136; refine (implOwned_any H ⟨1, x, y, 2, l, -1, o, t⟩ HO.out OK.out rfl NF.out _ hi _ (by omega) (R.out.below hB hh)).mono ?_; rintro er w4 ⟨v', he, hO', hB4⟩; rw [MP.out] at he hO'; subst he; have hz4 := hB4.size; dsimp only [hv]; replace hr5 := hr5.of (hB4.block b5 (by omega)); replace hB := hB.trans (hB4.mono (by omega))) | (refine wpList_store_v rfl 58 _ _ rfl b5 (hv ⟨k9, x9, y9, s9, l9, e9, o9, t9⟩) rfl rfl sizeH hr5.blk rfl (hv_one _) ?_; intro w5 hO5 hV5; have hz5 := hO5.1) | (fail))
      exact row_tmp_cell rfl rfl rfl hV5 Try.underlying58 sizeH rfl ⟨_, rfl, .inr ((hO'.only hO5 (by omega)).wide (by omega) (by omega)), hB.trans (hO5.2.2 _ (by omega))⟩
    · have MA : Hid (moveA H ⟨2, x, y, 2, l, -1, o, t⟩ = (H, ⟨2, x, y, 5, -1, -1, o, 2⟩)) := by unfold Hid moveA; simp [hfd, doneD]
      rw [MA.out]
      clear hfd hk HO OK
      go_enter Try.func132, Try.ntmps132
      go_wp2_with (first | (refine wpList_box_v rfl 58 _ rfl (hv ⟨2, x, y, 2, l, -1, o, t⟩) rfl ?_; intro b3 w1 hb3 hw1 hB1 hV1; have hz1 := hB1.size) | (refine wpList_alloc_v rfl 58 rfl _ zeroH ?_; intro b5 w2 hb5 hw2 hB2 hV2; have hz2 := hB2.size; have hb : HB w2 b3 ⟨2, x, y, 2, l, -1, o, t⟩ := ⟨hV1.below hB2 hw1⟩; have hr5 : HB w2 b5 ⟨0, 0, 0, 0, 0, 0, 0, 0⟩ := ⟨hV2⟩; have hB : Below w.heap.size w w2 := hB1.trans (hB2.mono hz1); clear hV1 hV2; obtain ⟨c0, c1, c2, c3, c4, c5, c6, c7⟩ := hb.cells) | (fail))
      try go_frame
      go_big_quiet (fail)
      have hbW : HB (w2.drewN nq) b3 ⟨2, x, y, 2, l, -1, o, t⟩ := hb.of rfl
      have hrW : HB (w2.drewN nq) b5 ⟨0, 0, 0, 0, 0, 0, 0, 0⟩ := hr5.of rfl
      have hBW : Below w.heap.size w (w2.drewN nq) := hB.trans (below_drewN _ _)
      have hzW : (w2.drewN nq).heap.size = w2.heap.size := rfl
      obtain ⟨w3, hW⟩ : ∃ W, w2.drewN nq = W := ⟨_, rfl⟩
      rw [hW] at hbW hrW hBW hzW ⊢
      clear hb hr5 hB c0 c1 c2 c3 c4 c5 c6 c7 hW
      have hb := hbW; have hr5 := hrW; have hB := hBW; clear hbW hrW hBW
      obtain ⟨c0, c1, c2, c3, c4, c5, c6, c7⟩ := hb.cells
      go_wp2_with (first | (go_at_call 134; refine (rested_any ⟨2, x, y, 2, l, -1, o, t⟩ 5 2 _).mono ?_; rintro er w4 ⟨rfl, hB4⟩; have hz4 := hB4.size; dsimp only [restD, hv]; replace hr5 := hr5.of (hB4.block b5 (by omega)); replace hB := hB.trans (hB4.mono (by omega))) | (refine wpList_store_v rfl 58 _ _ rfl b5 (hv ⟨2, x, y, 5, -1, -1, o, 2⟩) rfl rfl sizeH hr5.blk rfl (hv_one _) ?_; intro w5 hO5 hV5; have hz5 := hO5.1) | (fail))
      exact row_tmp_cell rfl rfl rfl hV5 Try.underlying58 sizeH rfl ⟨_, rfl, .inl ⟨rfl, by trivial⟩, hB.trans (hO5.2.2 _ (by omega))⟩
    · have MA : Hid (moveA H ⟨3, x, y, 2, l, -1, o, t⟩ = (H, ⟨3, x, y, 5, -1, -1, o, 2⟩)) := by unfold Hid moveA; simp [hfd, doneD]
      rw [MA.out]
      clear hfd hk HO OK
      go_enter Try.func132, Try.ntmps132
      go_wp2_with (first | (refine wpList_box_v rfl 58 _ rfl (hv ⟨3, x, y, 2, l, -1, o, t⟩) rfl ?_; intro b3 w1 hb3 hw1 hB1 hV1; have hz1 := hB1.size) | (refine wpList_alloc_v rfl 58 rfl _ zeroH ?_; intro b5 w2 hb5 hw2 hB2 hV2; have hz2 := hB2.size; have hb : HB w2 b3 ⟨3, x, y, 2, l, -1, o, t⟩ := ⟨hV1.below hB2 hw1⟩; have hr5 : HB w2 b5 ⟨0, 0, 0, 0, 0, 0, 0, 0⟩ := ⟨hV2⟩; have hB : Below w.heap.size w w2 := hB1.trans (hB2.mono hz1); clear hV1 hV2; obtain ⟨c0, c1, c2, c3, c4, c5, c6, c7⟩ := hb.cells) | (fail))
      try go_frame
      go_big_quiet (fail)
      have hbW : HB (w2.drewN nq) b3 ⟨3, x, y, 2, l, -1, o, t⟩ := hb.of rfl
      have hrW : HB (w2.drewN nq) b5 ⟨0, 0, 0, 0, 0, 0, 0, 0⟩ := hr5.of rfl
      have hBW : Below w.heap.size w (w2.drewN nq) := hB.trans (below_drewN _ _)
      have hzW : (w2.drewN nq).heap.size = w2.heap.size := rfl
      obtain ⟨w3, hW⟩ : ∃ W, w2.drewN nq = W := ⟨_, rfl⟩
      rw [hW] at hbW hrW hBW hzW ⊢
      clear hb hr5 hB c0 c1 c2 c3 c4 c5 c6 c7 hW
      have hb := hbW; have hr5 := hrW; have hB := hBW; clear hbW hrW hBW
      obtain ⟨c0, c1, c2, c3, c4, c5, c6, c7⟩ := hb.cells
      go_wp2_with (first | (go_at_call 134; refine (rested_any ⟨3, x, y, 2, l, -1, o, t⟩ 5 2 _).mono ?_; rintro er w4 ⟨rfl, hB4⟩; have hz4 := hB4.size; dsimp only [restD, hv]; replace hr5 := hr5.of (hB4.block b5 (by omega)); replace hB := hB.trans (hB4.mono (by omega))) | (refine wpList_store_v rfl 58 _ _ rfl b5 (hv ⟨3, x, y, 5, -1, -1, o, 2⟩) rfl rfl sizeH hr5.blk rfl (hv_one _) ?_; intro w5 hO5 hV5; have hz5 := hO5.1) | (fail))
      exact row_tmp_cell rfl rfl rfl hV5 Try.underlying58 sizeH rfl ⟨_, rfl, .inl ⟨rfl, by trivial⟩, hB.trans (hO5.2.2 _ (by omega))⟩
  · have he1 : e ≠ -1 := by omega
    obtain ⟨i, rfl⟩ : ∃ i : Nat, e = i := ⟨e.toNat, by omega⟩
    have hi1 : i < H.length := by omega
    have hi1' : (i : Int) < H.length := by omega
    have en := nth_nat H i hi1
    have ge : ((i : Int) != -1) = true := by simp
    obtain ⟨b, off, rfl, hbh, e0, -, -, -⟩ := R.out.cell i hi1
    obtain ⟨kk, hkk⟩ := hid_ex (H[i].key)
    rw [hkk.out] at e0
    have HO : Hid (heapOk H) := hok
    have OK : Hid (OkH H ⟨k, x, y, 2, l, (i : Int), o, t⟩) := ok
    clear hok ok hw he1
    by_cases hx : kk = x
    · have gx : (kk == x) = true := by simpa using hx
      have hfd : found H ⟨k, x, y, 2, l, (i : Int), o, t⟩ := ⟨by show (0 : Int) ≤ i; omega, by show (nth H (i : Int)).key = x; rw [en, hkk.out]; exact hx⟩
      clear hx
      rcases (by omega : k = 1 ∨ k = 2 ∨ k = 3) with rfl | rfl | rfl
      · have MA : Hid (moveA H ⟨1, x, y, 2, l, (i : Int), o, t⟩ = (H, ⟨1, x, y, 5, -1, -1, o, 2⟩)) := by unfold Hid moveA; simp [hfd, doneD]
        rw [MA.out]
        clear hfd hk HO OK
        go_enter Try.func132, Try.ntmps132
        go_wp2_with (first | (refine wpList_box_v rfl 58 _ rfl (hv ⟨1, x, y, 2, l, (i : Int), o, t⟩) rfl ?_; intro b3 w1 hb3 hw1 hB1 hV1; have hz1 := hB1.size) | (refine wpList_alloc_v rfl 58 rfl _ zeroH ?_; intro b5 w2 hb5 hw2 hB2 hV2; have hz2 := hB2.size; have hb : HB w2 b3 ⟨1, x, y, 2, l, (i : Int), o, t⟩ := ⟨hV1.below hB2 hw1⟩; have hr5 : HB w2 b5 ⟨0, 0, 0, 0, 0, 0, 0, 0⟩ := ⟨hV2⟩; have hB : Below w.heap.size w w2 := hB1.trans (hB2.mono hz1); clear hV1 hV2; obtain ⟨c0, c1, c2, c3, c4, c5, c6, c7⟩ := hb.cells) | (fail))
        have f0 : w2.cell? ⟨b, off + i * 4, none⟩ = some (.int .i64 kk) := (World.cell?_of_block (w := w) (w' := w2) (a := ⟨b, off + i * 4, none⟩) (hB.block b (by omega))).trans e0
        try go_frame
        go_big_quiet (fail)
        have hbW : HB (w2.drewN nq) b3 ⟨1, x, y, 2, l, (i : Int), o, t⟩ := hb.of rfl
        have hrW : HB (w2.drewN nq) b5 ⟨0, 0, 0, 0, 0, 0, 0, 0⟩ := hr5.of rfl
        have hBW : Below w.heap.size w (w2.drewN nq) := hB.trans (below_drewN _ _)
        have hzW : (w2.drewN nq).heap.size = w2.heap.size := rfl
        obtain ⟨w3, hW⟩ : ∃ W, w2.drewN nq = W := ⟨_, rfl⟩
        rw [hW] at hbW hrW hBW hzW ⊢
        clear hb hr5 hB c0 c1 c2 c3 c4 c5 c6 c7 hW
        have hb := hbW; have hr5 := hrW; have hB := hBW; clear hbW hrW hBW
        obtain ⟨c0, c1, c2, c3, c4, c5, c6, c7⟩ := hb.cells
        go_wp2_with (first | (go_at_call 134; refine (rested_any ⟨1, x, y, 2, l, (i : Int), o, t⟩ 5 2 _).mono ?_; rintro er w4 ⟨rfl, hB4⟩; have hz4 := hB4.size; dsimp only [restD, hv]; replace hr5 := hr5.of (hB4.block b5 (by omega)); replace hB := hB.trans (hB4.mono (by omega))) | (refine wpList_store_v rfl 58 _ _ rfl b5 (hv ⟨1, x, y, 5, -1, -1, o, 2⟩) rfl rfl sizeH hr5.blk rfl (hv_one _) ?_; intro w5 hO5 hV5; have hz5 := hO5.1) | (fail))
        exact row_tmp_cell rfl rfl rfl hV5 Try.underlying58 sizeH rfl ⟨_, rfl, .inl ⟨rfl, by trivial⟩, hB.trans (hO5.2.2 _ (by omega))⟩
      · have MA : Hid (moveA H ⟨2, x, y, 2, l, (i : Int), o, t⟩ = (H, ⟨2, x, y, 4, l, (i : Int), o, t⟩)) := by unfold Hid moveA; simp [hfd]
        rw [MA.out]
        clear hfd hk HO OK
        go_enter Try.func132, Try.ntmps132
        go_wp2_with (first | (refine wpList_box_v rfl 58 _ rfl (hv ⟨2, x, y, 2, l, (i : Int), o, t⟩) rfl ?_; intro b3 w1 hb3 hw1 hB1 hV1; have hz1 := hB1.size) | (refine wpList_alloc_v rfl 58 rfl _ zeroH ?_; intro b5 w2 hb5 hw2 hB2 hV2; have hz2 := hB2.size; have hb : HB w2 b3 ⟨2, x, y, 2, l, (i : Int), o, t⟩ := ⟨hV1.below hB2 hw1⟩; have hr5 : HB w2 b5 ⟨0, 0, 0, 0, 0, 0, 0, 0⟩ := ⟨hV2⟩; have hB : Below w.heap.size w w2 := hB1.trans (hB2.mono hz1); clear hV1 hV2; obtain ⟨c0, c1, c2, c3, c4, c5, c6, c7⟩ := hb.cells) | (fail))
        have f0 : w2.cell? ⟨b, off + i * 4, none⟩ = some (.int .i64 kk) := (World.cell?_of_block (w := w) (w' := w2) (a := ⟨b, off + i * 4, none⟩) (hB.block b (by omega))).trans e0
        try go_frame
        go_big_quiet (fail)
        have hbW : HB (w2.drewN nq) b3 ⟨2, x, y, 2, l, (i : Int), o, t⟩ := hb.of rfl
        have hrW : HB (w2.drewN nq) b5 ⟨0, 0, 0, 0, 0, 0, 0, 0⟩ := hr5.of rfl
        have hBW : Below w.heap.size w (w2.drewN nq) := hB.trans (below_drewN _ _)
        have hzW : (w2.drewN nq).heap.size = w2.heap.size := rfl
        obtain ⟨w3, hW⟩ : ∃ W, w2.drewN nq = W := ⟨_, rfl⟩
        rw [hW] at hbW hrW hBW hzW ⊢
        clear hb hr5 hB c0 c1 c2 c3 c4 c5 c6 c7 hW
        have hb := hbW; have hr5 := hrW; have hB := hBW; clear hbW hrW hBW
        obtain ⟨c0, c1, c2, c3, c4, c5, c6, c7⟩ := hb.cells
        go_wp2_with (first | (refine wpList_store_f rfl _ _ rfl b3 3 (4) rfl rfl ⟨2, x, y, 4, l, (i : Int), o, t⟩ (by omega) hb rfl ?_; intro w4 hO4 hb4; have hz4 := hO4.1; replace hb := hb4; clear hb4; clear c0 c1 c2 c3 c4 c5 c6 c7; obtain ⟨c0, c1, c2, c3, c4, c5, c6, c7⟩ := hb.cells; replace hr5 := hr5.of (hO4.2.1 b5 (by omega)); replace hB := hB.trans (hO4.2.2 _ (by omega))) | (fail))
        have S0 := hb.drew.cells
        obtain ⟨q0, q1, q2, q3, q4, q5, q6, q7⟩ := hr5.cells
        obtain ⟨g0, g1, g2, g3, g4, g5, g6, g7⟩ := hr5.fz
        have HR : Hid (HB w4 b5 ⟨0, 0, 0, 0, 0, 0, 0, 0⟩) := hr5
        clear hr5
        go_region
        go_wp2
        obtain ⟨hb8, hO8⟩ := fill8 HR.out (2) (x) (y) (4) (l) ((i : Int)) (o) (t)
        exact row_tmp_cell rfl rfl rfl hb8.blk Try.underlying58 sizeH rfl ⟨_, rfl, .inl ⟨rfl, by trivial⟩, hB.trans (hO8.2.2 _ (by omega))⟩
      · have MA : Hid (moveA H ⟨3, x, y, 2, l, (i : Int), o, t⟩ = (H, ⟨3, x, y, 5, -1, -1, o, 1⟩)) := by unfold Hid moveA; simp [hfd, doneD]
        rw [MA.out]
        clear hfd hk HO OK
        go_enter Try.func132, Try.ntmps132
        go_wp2_with (first | (refine wpList_box_v rfl 58 _ rfl (hv ⟨3, x, y, 2, l, (i : Int), o, t⟩) rfl ?_; intro b3 w1 hb3 hw1 hB1 hV1; have hz1 := hB1.size) | (refine wpList_alloc_v rfl 58 rfl _ zeroH ?_; intro b5 w2 hb5 hw2 hB2 hV2; have hz2 := hB2.size; have hb : HB w2 b3 ⟨3, x, y, 2, l, (i : Int), o, t⟩ := ⟨hV1.below hB2 hw1⟩; have hr5 : HB w2 b5 ⟨0, 0, 0, 0, 0, 0, 0, 0⟩ := ⟨hV2⟩; have hB : Below w.heap.size w w2 := hB1.trans (hB2.mono hz1); clear hV1 hV2; obtain ⟨c0, c1, c2, c3, c4, c5, c6, c7⟩ := hb.cells) | (fail))
        have f0 : w2.cell? ⟨b, off + i * 4, none⟩ = some (.int .i64 kk) := (World.cell?_of_block (w := w) (w' := w2) (a := ⟨b, off + i * 4, none⟩) (hB.block b (by omega))).trans e0
        try go_frame
        go_big_quiet (fail)
        have hbW : HB (w2.drewN nq) b3 ⟨3, x, y, 2, l, (i : Int), o, t⟩ := hb.of rfl
        have hrW : HB (w2.drewN nq) b5 ⟨0, 0, 0, 0, 0, 0, 0, 0⟩ := hr5.of rfl
        have hBW : Below w.heap.size w (w2.drewN nq) := hB.trans (below_drewN _ _)
        have hzW : (w2.drewN nq).heap.size = w2.heap.size := rfl
        obtain ⟨w3, hW⟩ : ∃ W, w2.drewN nq = W := ⟨_, rfl⟩
        rw [hW] at hbW hrW hBW hzW ⊢
        clear hb hr5 hB c0 c1 c2 c3 c4 c5 c6 c7 hW
        have hb := hbW; have hr5 := hrW; have hB := hBW; clear hbW hrW hBW
        obtain ⟨c0, c1, c2, c3, c4, c5, c6, c7⟩ := hb.cells
        go_wp2_with (first | (go_at_call 134; refine (rested_any ⟨3, x, y, 2, l, (i : Int), o, t⟩ 5 1 _).mono ?_; rintro er w4 ⟨rfl, hB4⟩; have hz4 := hB4.size; dsimp only [restD, hv]; replace hr5 := hr5.of (hB4.block b5 (by omega)); replace hB := hB.trans (hB4.mono (by omega))) | (refine wpList_store_v rfl 58 _ _ rfl b5 (hv ⟨3, x, y, 5, -1, -1, o, 1⟩) rfl rfl sizeH hr5.blk rfl (hv_one _) ?_; intro w5 hO5 hV5; have hz5 := hO5.1) | (fail))
        exact row_tmp_cell rfl rfl rfl hV5 Try.underlying58 sizeH rfl ⟨_, rfl, .inl ⟨rfl, by trivial⟩, hB.trans (hO5.2.2 _ (by omega))⟩
    · have gx : (kk == x) = false := by simpa using hx
      have hfd : ¬ found H ⟨k, x, y, 2, l, (i : Int), o, t⟩ := fun q => hx (by have q2 := q.2; simp only [] at q2; rw [en, hkk.out] at q2; exact q2)
      clear hx
      rcases (by omega : k = 1 ∨ k = 2 ∨ k = 3) with rfl | rfl | rfl
      · have MA : Hid (moveA H ⟨1, x, y, 2, l, (i : Int), o, t⟩ = movePut H ⟨1, x, y, 2, l, (i : Int), o, t⟩) := by unfold Hid moveA; simp [hfd]
        rw [MA.out]
        obtain ⟨⟨L, ⟨k9, x9, y9, s9, l9, e9, o9, t9⟩⟩, MP⟩ := hid_ex (movePut H ⟨1, x, y, 2, l, (i : Int), o, t⟩)
        rw [MP.out]
        have NF : Hid (¬ found H ⟨1, x, y, 2, l, (i : Int), o, t⟩) := hfd
        clear hfd hk
        go_enter Try.func132, Try.ntmps132
        go_wp2_with (first | (refine wpList_box_v rfl 58 _ rfl (hv ⟨1, x, y, 2, l, (i : Int), o, t⟩) rfl ?_; intro b3 w1 hb3 hw1 hB1 hV1; have hz1 := hB1.size) | (refine wpList_alloc_v rfl 58 rfl _ zeroH ?_; intro b5 w2 hb5 hw2 hB2 hV2; have hz2 := hB2.size; have hb : HB w2 b3 ⟨1, x, y, 2, l, (i : Int), o, t⟩ := ⟨hV1.below hB2 hw1⟩; have hr5 : HB w2 b5 ⟨0, 0, 0, 0, 0, 0, 0, 0⟩ := ⟨hV2⟩; have hB : Below w.heap.size w w2 := hB1.trans (hB2.mono hz1); clear hV1 hV2; obtain ⟨c0, c1, c2, c3, c4, c5, c6, c7⟩ := hb.cells) | (fail))
        have f0 : w2.cell? ⟨b, off + i * 4, none⟩ = some (.int .i64 kk) := (World.cell?_of_block (w := w) (w' := w2) (a := ⟨b, off + i * 4, none⟩) (hB.block b (by omega))).trans e0
        try go_frame
        go_big_quiet (fail)
        have hbW : HB (w2.drewN nq) b3 ⟨1, x, y, 2, l, (i : Int), o, t⟩ := hb.of rfl
        have hrW : HB (w2.drewN nq) b5 ⟨0, 0, 0, 0, 0, 0, 0, 0⟩ := hr5.of rfl
        have hBW : Below w.heap.size w (w2.drewN nq) := hB.trans (below_drewN _ _)
        have hzW : (w2.drewN nq).heap.size = w2.heap.size := rfl
        obtain ⟨w3, hW⟩ : ∃ W, w2.drewN nq = W := ⟨_, rfl⟩
        rw [hW] at hbW hrW hBW hzW ⊢
        clear hb hr5 hB c0 c1 c2 c3 c4 c5 c6 c7 hW
        have hb := hbW; have hr5 := hrW; have hB := hBW; clear hbW hrW hBW
        obtain ⟨c0, c1, c2, c3, c4, c5, c6, c7⟩ := hb.cells
        go_wp2_with (first | (go_at_call 136; refine (implOwned_any H ⟨1, x, y, 2, l, (i : Int), o, t⟩ HO.out OK.out rfl NF.out _ hi _ (by omega) (R.out.below hB hh)).mono ?_; rintro er w4 ⟨v', he, hO', hB4⟩; rw [MP.out] at he hO'; subst he; have hz4 := hB4.size; dsimp only [hv]; replace hr5 := hr5.of (hB4.block b5 (by omega)); replace hB := hB.trans (hB4.mono (by omega))) | (refine wpList_store_v rfl 58 _ _ rfl b5 (hv ⟨k9, x9, y9, s9, l9, e9, o9, t9⟩) rfl rfl sizeH hr5.blk rfl (hv_one _) ?_; intro w5 hO5 hV5; have hz5 := hO5.1) | (fail))
        exact row_tmp_cell rfl rfl rfl hV5 Try.underlying58 sizeH rfl ⟨_, rfl, .inr ((hO'.only hO5 (by omega)).wide (by omega) (by omega)), hB.trans (hO5.2.2 _ (by omega))⟩
      · have MA : Hid (moveA H ⟨2, x, y, 2, l, (i : Int), o, t⟩ = (H, ⟨2, x, y, 5, -1, -1, o, 2⟩)) := by unfold Hid moveA; simp [hfd, doneD]
        rw [MA.out]
        clear hfd hk HO OK
        go_enter Try.func132, Try.ntmps132
        go_wp2_with (first | (refine wpList_box_v rfl 58 _ rfl (hv ⟨2, x, y, 2, l, (i : Int), o, t⟩) rfl ?_; intro b3 w1 hb3 hw1 hB1 hV1; have hz1 := hB1.size) | (refine wpList_alloc_v rfl 58 rfl _ zeroH ?_; intro b5 w2 hb5 hw2 hB2 hV2; have hz2 := hB2.size; have hb : HB w2 b3 ⟨2, x, y, 2, l, (i : Int), o, t⟩ := ⟨hV1.below hB2 hw1⟩; have hr5 : HB w2 b5 ⟨0, 0, 0, 0, 0, 0, 0, 0⟩ := ⟨hV2⟩; have hB : Below w.heap.size w w2 := hB1.trans (hB2.mono hz1); clear hV1 hV2; obtain ⟨c0, c1, c2, c3, c4, c5, c6, c7⟩ := hb.cells) | (fail))
        have f0 : w2.cell? ⟨b, off + i * 4, none⟩ = some (.int .i64 kk) := (World.cell?_of_block (w := w) (w' := w2) (a := ⟨b, off + i * 4, none⟩) (hB.block b (by omega))).trans e0
        try go_frame
        go_big_quiet (fail)
        have hbW : HB (w2.drewN nq) b3 ⟨2, x, y, 2, l, (i : Int), o, t⟩ := hb.of rfl
        have hrW : HB (w2.drewN nq) b5 ⟨0, 0, 0, 0, 0, 0, 0, 0⟩ := hr5.of rfl
        have hBW : Below w.heap.size w (w2.drewN nq) := hB.trans (below_drewN _ _)
        have hzW : (w2.drewN nq).heap.size = w2.heap.size := rfl
        obtain ⟨w3, hW⟩ : ∃ W, w2.drewN nq = W := ⟨_, rfl⟩
        rw [hW] at hbW hrW hBW hzW ⊢
        clear hb hr5 hB c0 c1 c2 c3 c4 c5 c6 c7 hW
        have hb := hbW; have hr5 := hrW; have hB := hBW; clear hbW hrW hBW
        obtain ⟨c0, c1, c2, c3, c4, c5, c6, c7⟩ := hb.cells
        go_wp2_with (first | (go_at_call 134; refine (rested_any ⟨2, x, y, 2, l, (i : Int), o, t⟩ 5 2 _).mono ?_; rintro er w4 ⟨rfl, hB4⟩; have hz4 := hB4.size; dsimp only [restD, hv]; replace hr5 := hr5.of (hB4.block b5 (by omega)); replace hB := hB.trans (hB4.mono (by omega))) | (refine wpList_store_v rfl 58 _ _ rfl b5 (hv ⟨2, x, y, 5, -1, -1, o, 2⟩) rfl rfl sizeH hr5.blk rfl (hv_one _) ?_; intro w5 hO5 hV5; have hz5 := hO5.1) | (fail))
        exact row_tmp_cell rfl rfl rfl hV5 Try.underlying58 sizeH rfl ⟨_, rfl, .inl ⟨rfl, by trivial⟩, hB.trans (hO5.2.2 _ (by omega))⟩
      · have MA : Hid (moveA H ⟨3, x, y, 2, l, (i : Int), o, t⟩ = (H, ⟨3, x, y, 5, -1, -1, o, 2⟩)) := by unfold Hid moveA; simp [hfd, doneD]
        rw [MA.out]
        clear hfd hk HO OK
        go_enter Try.func132, Try.ntmps132
        go_wp2_with (first | (refine wpList_box_v rfl 58 _ rfl (hv ⟨3, x, y, 2, l, (i : Int), o, t⟩) rfl ?_; intro b3 w1 hb3 hw1 hB1 hV1; have hz1 := hB1.size) | (refine wpList_alloc_v rfl 58 rfl _ zeroH ?_; intro b5 w2 hb5 hw2 hB2 hV2; have hz2 := hB2.size; have hb : HB w2 b3 ⟨3, x, y, 2, l, (i : Int), o, t⟩ := ⟨hV1.below hB2 hw1⟩; have hr5 : HB w2 b5 ⟨0, 0, 0, 0, 0, 0, 0, 0⟩ := ⟨hV2⟩; have hB : Below w.heap.size w w2 := hB1.trans (hB2.mono hz1); clear hV1 hV2; obtain ⟨c0, c1, c2, c3, c4, c5, c6, c7⟩ := hb.cells) | (fail))
        have f0 : w2.cell? ⟨b, off + i * 4, none⟩ = some (.int .i64 kk) := (World.cell?_of_block (w := w) (w' := w2) (a := ⟨b, off + i * 4, none⟩) (hB.block b (by omega))).trans e0
        try go_frame
        go_big_quiet (fail)
        have hbW : HB (w2.drewN nq) b3 ⟨3, x, y, 2, l, (i : Int), o, t⟩ := hb.of rfl
        have hrW : HB (w2.drewN nq) b5 ⟨0, 0, 0, 0, 0, 0, 0, 0⟩ := hr5.of rfl
        have hBW : Below w.heap.size w (w2.drewN nq) := hB.trans (below_drewN _ _)
        have hzW : (w2.drewN nq).heap.size = w2.heap.size := rfl
        obtain ⟨w3, hW⟩ : ∃ W, w2.drewN nq = W := ⟨_, rfl⟩
        rw [hW] at hbW hrW hBW hzW ⊢
        clear hb hr5 hB c0 c1 c2 c3 c4 c5 c6 c7 hW
        have hb := hbW; have hr5 := hrW; have hB := hBW; clear hbW hrW hBW
        obtain ⟨c0, c1, c2, c3, c4, c5, c6, c7⟩ := hb.cells
        go_wp2_with (first | (go_at_call 134; refine (rested_any ⟨3, x, y, 2, l, (i : Int), o, t⟩ 5 2 _).mono ?_; rintro er w4 ⟨rfl, hB4⟩; have hz4 := hB4.size; dsimp only [restD, hv]; replace hr5 := hr5.of (hB4.block b5 (by omega)); replace hB := hB.trans (hB4.mono (by omega))) | (refine wpList_store_v rfl 58 _ _ rfl b5 (hv ⟨3, x, y, 5, -1, -1, o, 2⟩) rfl rfl sizeH hr5.blk rfl (hv_one _) ?_; intro w5 hO5 hV5; have hz5 := hO5.1) | (fail))
        exact row_tmp_cell rfl rfl rfl hV5 Try.underlying58 sizeH rfl ⟨_, rfl, .inl ⟨rfl, by trivial⟩, hB.trans (hO5.2.2 _ (by omega))⟩
end Go.Proofs.Ythjkhghlhjndmaa.ce
/- The program's played: what holds at its label next. -/
namespace Go.Proofs.Ythjkhghlhjndmaa.ce
open Go.ChangeShapes Go.WideShapes Go.ChangeAt Go.RowKit
set_option linter.unusedVariables false

/-- the code inside the function's scope -/
noncomputable def body : Code := match (Try.f130).body with
  | some (.seq _ (.scope c)) => c
  | _ => .skip

/-- the heap's cells in v, the hand in its variable b4, the answer's hand in b7 -/
structure Pm (w0 w : World) (b4 b7 : Nat) (v : Value) (H : List C) (d : Hd) : Prop where
  own : ∃ lo, b4 < lo ∧ b7 < lo ∧ Own w lo w.heap.size v H
  hand : HB w b4 d
  res : HB w b7 ⟨0, 0, 0, 0, 0, 0, 0, 0⟩
  ne : b4 ≠ b7
  lo4 : w0.heap.size ≤ b4
  lo7 : w0.heap.size ≤ b7
  below : Below w0.heap.size w0 w
theorem Pm.z {w0 w : World} {b4 b7 : Nat} {v : Value} {H : List C} {d : Hd} (p : Pm w0 w b4 b7 v H d) : w0.heap.size ≤ w.heap.size := p.below.size
theorem Pm.rd {w0 w : World} {b4 b7 : Nat} {v : Value} {H : List C} {d : Hd} (p : Pm w0 w b4 b7 v H d) : Rd w w.heap.size v H := by
  obtain ⟨lo, h1, h2, h3⟩ := p.own
  exact h3.rd
/-- a call that answers cells of its own -/
theorem Pm.fresh {w0 w w' : World} {b4 b7 : Nat} {v v' : Value} {H H' : List C} {d : Hd} (p : Pm w0 w b4 b7 v H d) (hB : Below w.heap.size w w') (hO : Own w' w.heap.size w'.heap.size v' H') : Pm w0 w' b4 b7 v' H' d :=
  ⟨⟨_, p.hand.lt, p.res.lt, hO⟩, p.hand.of (hB.block _ p.hand.lt), p.res.of (hB.block _ p.res.lt), p.ne, p.lo4, p.lo7, p.below.trans (hB.mono p.z)⟩
/-- a call that answers none -/
theorem Pm.call {w0 w w' : World} {b4 b7 : Nat} {v : Value} {H : List C} {d : Hd} (p : Pm w0 w b4 b7 v H d) (hB : Below w.heap.size w w') : Pm w0 w' b4 b7 v H d := by
  obtain ⟨lo, h1, h2, h3⟩ := p.own
  exact ⟨⟨lo, h1, h2, (h3.below hB (Nat.le_refl _)).wide (Nat.le_refl _) hB.size⟩, p.hand.of (hB.block _ p.hand.lt), p.res.of (hB.block _ p.res.lt), p.ne, p.lo4, p.lo7, p.below.trans (hB.mono p.z)⟩
/-- the hand's variable is turned -/
theorem Pm.turn {w0 w w' : World} {b4 b7 : Nat} {v : Value} {H : List C} {d d' : Hd} (p : Pm w0 w b4 b7 v H d) (hO : Only b4 w w') (hb : HB w' b4 d') : Pm w0 w' b4 b7 v H d' := by
  obtain ⟨lo, h1, h2, h3⟩ := p.own
  exact ⟨⟨lo, h1, h2, (h3.only hO h1).wide (Nat.le_refl _) (Nat.le_of_eq hO.1.symm)⟩, hb, p.res.of (hO.2.1 _ (Ne.symm p.ne)), p.ne, p.lo4, p.lo7, p.below.trans (hO.2.2 _ p.lo4)⟩
theorem Pm.drew {w0 w : World} {b4 b7 : Nat} {v : Value} {H : List C} {d : Hd} (p : Pm w0 w b4 b7 v H d) : Pm w0 w.drew b4 b7 v H d := p.call (Below.refl _ _).drew
theorem Pm.drewN {w0 w : World} {b4 b7 : Nat} {v : Value} {H : List C} {d : Hd} (p : Pm w0 w b4 b7 v H d) (n : Nat) : Pm w0 (w.drewN n) b4 b7 v H d := p.call (below_drewN _ _)

theorem pass_out (w0 : World) (b4 b7 : Nat) (m : Int) (hm : m ≤ 0) (hm2 : -1 ≤ m) (H : List C) (d : Hd) (w : World) (v u1 u3 u5 u6 u8 u9 u10 u11 u12 u13 u14 u15 u16 u17 u18 u19 u20 u21 u22 u23 u24 u25 u26 u27 u28 u29 u30 u31 u32 u33 u34 u35 u36 u37 u38 u39 u40 u41 u42 u43 u44 u45 u46 u47 u48 u49 u50 u51 u52 u53 u54 u55 u56 u57 u58 u59 u60 u61 u62 u63 u64 u65 u66 u67 u68 u69 u70 u71 u72 u73 u74 u75 u76 u77 u78 u79 u80 u81 u82 u83 u84 u85 u86 u87 u88 u89 u90 u91 u92 u93 u94 u95 u96 u97 u98 u99 u100 u101 u102 u103 u104 u105 u106 u107 u108 u109 u110 u111 u112 u113 u114 u115 u116 u117 u118 u119 u120 u121 u122 u123 u124 u125 u126 u127 u128 u129 u130 u131 u132 u133 u134 u135 u136 u137 u138 u139 u140 u141 u142 u143 u144 : Value) (pm : Pm w0 w b4 b7 v H d) (R : Ending → World → Prop)
    (hR : ∀ v' w', Own w' w0.heap.size w'.heap.size v' H → Below w0.heap.size w0 w' → R (.returned (.tuple #[v', .agg (hv d).toArray])) w') (rest : Code) (hr : findLabel body 0 = some (.seq .skip rest)) :
    rest.wp Try.prog (Scoped Try.prog body (bodyPost Try.prog Try.f130 R)) { tmps := #[v, u1, .int .i64 m, u3, .pointer (some ⟨b4, 0, none⟩), u5, u6, .pointer (some ⟨b7, 0, none⟩), u8, u9, u10, u11, u12, u13, u14, u15, u16, u17, u18, u19, u20, u21, u22, u23, u24, u25, u26, u27, u28, u29, u30, u31, u32, u33, u34, u35, u36, u37, u38, u39, u40, u41, u42, u43, u44, u45, u46, u47, u48, u49, u50, u51, u52, u53, u54, u55, u56, u57, u58, u59, u60, u61, u62, u63, u64, u65, u66, u67, u68, u69, u70, u71, u72, u73, u74, u75, u76, u77, u78, u79, u80, u81, u82, u83, u84, u85, u86, u87, u88, u89, u90, u91, u92, u93, u94, u95, u96, u97, u98, u99, u100, u101, u102, u103, u104, u105, u106, u107, u108, u109, u110, u111, u112, u113, u114, u115, u116, u117, u118, u119, u120, u121, u122, u123, u124, u125, u126, u127, u128, u129, u130, u131, u132, u133, u134, u135, u136, u137, u138, u139, u140, u141, u142, u143, u144], defers := [] } w := by
  obtain rfl := (Code.seq.inj (Option.some.inj ((rfl : findLabel body 0 = some (.seq .skip _)).symm.trans hr))).2
  clear hr
  obtain ⟨k, x, y, s, l, e, o, t⟩ := d
  have hm1 : m - 1 < 0 := by omega
  have hb := pm.hand
  obtain ⟨c0, c1, c2, c3, c4, c5, c6, c7⟩ := hb.cells
  go_wp2
  have S0 := hb.drew.cells
  have hr7 := pm.res
  obtain ⟨q0, q1, q2, q3, q4, q5, q6, q7⟩ := hr7.cells
  obtain ⟨g0, g1, g2, g3, g4, g5, g6, g7⟩ := hr7.fz
  have PM : Hid (Pm w0 w b4 b7 v H ⟨k, x, y, s, l, e, o, t⟩) := pm
  have ne1 := pm.ne
  have ne2 : b7 ≠ b4 := Ne.symm pm.ne
  clear hr7 pm hb
  go_region
  go_wp2
  obtain ⟨lo, o1, o2, o3⟩ := PM.out.own
  have l7 := PM.out.lo7
  obtain ⟨hb8, hO8⟩ := fill8 PM.out.res k x y s l e o t
  refine scoped_ret (row_tmp_cell rfl rfl rfl hb8.blk Try.underlying58 sizeH rfl (hR _ _ ((o3.only hO8 o2).wide (by omega) (by have := hO8.1; omega)) (PM.out.below.trans (hO8.2.2 _ l7))))
end Go.Proofs.Ythjkhghlhjndmaa.ce
/- The program's played: the step from the start. -/
namespace Go.Proofs.Ythjkhghlhjndmaa.ce
open Go.ChangeShapes Go.WideShapes Go.ChangeAt Go.RowKit
set_option linter.unusedVariables false

set_option maxRecDepth 100000 in
set_option maxHeartbeats 4000000 in
theorem pass_start (w0 : World) (b4 b7 : Nat) (m : Int) (hm : 1 ≤ m) (hm2 : m ≤ 1000) (H : List C) (k x y l e o t : Int) (hok : heapOk H) (ok : OkH H ⟨k, x, y, 0, l, e, o, t⟩) (w : World) (v u1 u3 u5 u6 u8 u9 u10 u11 u12 u13 u14 u15 u16 u17 u18 u19 u20 u21 u22 u23 u24 u25 u26 u27 u28 u29 u30 u31 u32 u33 u34 u35 u36 u37 u38 u39 u40 u41 u42 u43 u44 u45 u46 u47 u48 u49 u50 u51 u52 u53 u54 u55 u56 u57 u58 u59 u60 u61 u62 u63 u64 u65 u66 u67 u68 u69 u70 u71 u72 u73 u74 u75 u76 u77 u78 u79 u80 u81 u82 u83 u84 u85 u86 u87 u88 u89 u90 u91 u92 u93 u94 u95 u96 u97 u98 u99 u100 u101 u102 u103 u104 u105 u106 u107 u108 u109 u110 u111 u112 u113 u114 u115 u116 u117 u118 u119 u120 u121 u122 u123 u124 u125 u126 u127 u128 u129 u130 u131 u132 u133 u134 u135 u136 u137 u138 u139 u140 u141 u142 u143 u144 : Value) (pm : Pm w0 w b4 b7 v H ⟨k, x, y, 0, l, e, o, t⟩) (Q : Exit → Act → World → Prop)
    (hnext : ∀ (w' : World) (v u1 u3 u5 u6 u8 u9 u10 u11 u12 u13 u14 u15 u16 u17 u18 u19 u20 u21 u22 u23 u24 u25 u26 u27 u28 u29 u30 u31 u32 u33 u34 u35 u36 u37 u38 u39 u40 u41 u42 u43 u44 u45 u46 u47 u48 u49 u50 u51 u52 u53 u54 u55 u56 u57 u58 u59 u60 u61 u62 u63 u64 u65 u66 u67 u68 u69 u70 u71 u72 u73 u74 u75 u76 u77 u78 u79 u80 u81 u82 u83 u84 u85 u86 u87 u88 u89 u90 u91 u92 u93 u94 u95 u96 u97 u98 u99 u100 u101 u102 u103 u104 u105 u106 u107 u108 u109 u110 u111 u112 u113 u114 u115 u116 u117 u118 u119 u120 u121 u122 u123 u124 u125 u126 u127 u128 u129 u130 u131 u132 u133 u134 u135 u136 u137 u138 u139 u140 u141 u142 u143 u144 : Value), Pm w0 w' b4 b7 v H ⟨k, x, y, 1, 0, (nth H 0).next, o, t⟩ → Scoped Try.prog body Q (.goto 0) { tmps := #[v, u1, .int .i64 (m - 1), u3, .pointer (some ⟨b4, 0, none⟩), u5, u6, .pointer (some ⟨b7, 0, none⟩), u8, u9, u10, u11, u12, u13, u14, u15, u16, u17, u18, u19, u20, u21, u22, u23, u24, u25, u26, u27, u28, u29, u30, u31, u32, u33, u34, u35, u36, u37, u38, u39, u40, u41, u42, u43, u44, u45, u46, u47, u48, u49, u50, u51, u52, u53, u54, u55, u56, u57, u58, u59, u60, u61, u62, u63, u64, u65, u66, u67, u68, u69, u70, u71, u72, u73, u74, u75, u76, u77, u78, u79, u80, u81, u82, u83, u84, u85, u86, u87, u88, u89, u90, u91, u92, u93, u94, u95, u96, u97, u98, u99, u100, u101, u102, u103, u104, u105, u106, u107, u108, u109, u110, u111, u112, u113, u114, u115, u116, u117, u118, u119, u120, u121, u122, u123, u124, u125, u126, u127, u128, u129, u130, u131, u132, u133, u134, u135, u136, u137, u138, u139, u140, u141, u142, u143, u144], defers := [] } w')
    (rest : Code) (hr : findLabel body 0 = some (.seq .skip rest)) :
    rest.wp Try.prog (Scoped Try.prog body Q) { tmps := #[v, u1, .int .i64 m, u3, .pointer (some ⟨b4, 0, none⟩), u5, u6, .pointer (some ⟨b7, 0, none⟩), u8, u9, u10, u11, u12, u13, u14, u15, u16, u17, u18, u19, u20, u21, u22, u23, u24, u25, u26, u27, u28, u29, u30, u31, u32, u33, u34, u35, u36, u37, u38, u39, u40, u41, u42, u43, u44, u45, u46, u47, u48, u49, u50, u51, u52, u53, u54, u55, u56, u57, u58, u59, u60, u61, u62, u63, u64, u65, u66, u67, u68, u69, u70, u71, u72, u73, u74, u75, u76, u77, u78, u79, u80, u81, u82, u83, u84, u85, u86, u87, u88, u89, u90, u91, u92, u93, u94, u95, u96, u97, u98, u99, u100, u101, u102, u103, u104, u105, u106, u107, u108, u109, u110, u111, u112, u113, u114, u115, u116, u117, u118, u119, u120, u121, u122, u123, u124, u125, u126, u127, u128, u129, u130, u131, u132, u133, u134, u135, u136, u137, u138, u139, u140, u141, u142, u143, u144], defers := [] } w := by
  obtain rfl := (Code.seq.inj (Option.some.inj ((rfl : findLabel body 0 = some (.seq .skip _)).symm.trans hr))).2
  clear hr
  have hm1 : ¬ m - 1 < 0 := by omega
  have NX : Hid (∀ (w' : World) (v u1 u3 u5 u6 u8 u9 u10 u11 u12 u13 u14 u15 u16 u17 u18 u19 u20 u21 u22 u23 u24 u25 u26 u27 u28 u29 u30 u31 u32 u33 u34 u35 u36 u37 u38 u39 u40 u41 u42 u43 u44 u45 u46 u47 u48 u49 u50 u51 u52 u53 u54 u55 u56 u57 u58 u59 u60 u61 u62 u63 u64 u65 u66 u67 u68 u69 u70 u71 u72 u73 u74 u75 u76 u77 u78 u79 u80 u81 u82 u83 u84 u85 u86 u87 u88 u89 u90 u91 u92 u93 u94 u95 u96 u97 u98 u99 u100 u101 u102 u103 u104 u105 u106 u107 u108 u109 u110 u111 u112 u113 u114 u115 u116 u117 u118 u119 u120 u121 u122 u123 u124 u125 u126 u127 u128 u129 u130 u131 u132 u133 u134 u135 u136 u137 u138 u139 u140 u141 u142 u143 u144 : Value), Pm w0 w' b4 b7 v H ⟨k, x, y, 1, 0, (nth H 0).next, o, t⟩ → Scoped Try.prog body Q (.goto 0) { tmps := #[v, u1, .int .i64 (m - 1), u3, .pointer (some ⟨b4, 0, none⟩), u5, u6, .pointer (some ⟨b7, 0, none⟩), u8, u9, u10, u11, u12, u13, u14, u15, u16, u17, u18, u19, u20, u21, u22, u23, u24, u25, u26, u27, u28, u29, u30, u31, u32, u33, u34, u35, u36, u37, u38, u39, u40, u41, u42, u43, u44, u45, u46, u47, u48, u49, u50, u51, u52, u53, u54, u55, u56, u57, u58, u59, u60, u61, u62, u63, u64, u65, u66, u67, u68, u69, u70, u71, u72, u73, u74, u75, u76, u77, u78, u79, u80, u81, u82, u83, u84, u85, u86, u87, u88, u89, u90, u91, u92, u93, u94, u95, u96, u97, u98, u99, u100, u101, u102, u103, u104, u105, u106, u107, u108, u109, u110, u111, u112, u113, u114, u115, u116, u117, u118, u119, u120, u121, u122, u123, u124, u125, u126, u127, u128, u129, u130, u131, u132, u133, u134, u135, u136, u137, u138, u139, u140, u141, u142, u143, u144], defers := [] } w') := hnext
  have PM : Hid (Pm w0 w b4 b7 v H ⟨k, x, y, 0, l, e, o, t⟩) := pm
  have hb := pm.hand
  have h1 := hok.1.1
  obtain ⟨lo, o1, o2, o3⟩ := pm.own
  obtain ⟨g, cap, rfl, hg1, hg2, -⟩ := o3.form h1
  have R := o3.rd
  have ng1 : g ≠ b4 := by omega
  have ng2 : b4 ≠ g := by omega
  have CE : Hid (∀ (i : Nat) (hi : i < H.length), _) := fun i hi => o3.cell i hi
  obtain ⟨c0, c1, c2, c3, c4, c5, c6, c7⟩ := hb.cells
  obtain ⟨f0, f1, f2, f3, f4, f5, f6, f7⟩ := hb.fz
  clear hnext pm
  have en := nth_nat H 0 h1
  have en0 : nth H 0 = H[0] := en
  obtain ⟨-, -, e2, -⟩ := CE.out 0 h1
  obtain ⟨q, hq⟩ := hid_ex (H[0].next)
  rw [hq.out] at e2
  rw [en0, hq.out] at NX
  have h1' : (0 : Int) < H.length := by omega
  clear hok ok en en0 R o3
  have HBH : Hid (HB w b4 ⟨k, x, y, 0, l, e, o, t⟩) := hb
  clear hb
  simp only [Nat.zero_mul, Nat.zero_add] at e2
  go_wp2
  go_step3
  refine scoped_goto rfl ?_
  go_wp2
  go_region
  go_wp2
  go_step3
  have t1 := PM.out.turn (only_set w b4 3 (.int .i64 1)) (HBH.out.set 3 1 ⟨k, x, y, 1, l, e, o, t⟩ rfl)
  have t2 := t1.turn (only_set _ b4 4 (.int .i64 0)) (t1.hand.set 4 0 ⟨k, x, y, 1, 0, e, o, t⟩ rfl)
  have t3 := t2.turn (only_set _ b4 5 (.int .i64 q)) (t2.hand.set 5 q ⟨k, x, y, 1, 0, q, o, t⟩ rfl)
  exact NX.out _ _ _ _ _ _ _ _ _ _ _ _ _ _ _ _ _ _ _ _ _ _ _ _ _ _ _ _ _ _ _ _ _ _ _ _ _ _ _ _ _ _ _ _ _ _ _ _ _ _ _ _ _ _ _ _ _ _ _ _ _ _ _ _ _ _ _ _ _ _ _ _ _ _ _ _ _ _ _ _ _ _ _ _ _ _ _ _ _ _ _ _ _ _ _ _ _ _ _ _ _ _ _ _ _ _ _ _ _ _ _ _ _ _ _ _ _ _ _ _ _ _ _ _ _ _ _ _ _ _ _ _ _ _ _ _ _ _ _ _ _ _ _ (t3.drew)
end Go.Proofs.Ythjkhghlhjndmaa.ce
/- The program's played: the way out, and the act. -/
namespace Go.Proofs.Ythjkhghlhjndmaa.ce
open Go.ChangeShapes Go.WideShapes Go.ChangeAt Go.RowKit
set_option linter.unusedVariables false

theorem pass_done (w0 : World) (b4 b7 : Nat) (m : Int) (hm : 1 ≤ m) (hm2 : m ≤ 1000) (H : List C) (k x y l e o t : Int) (w : World) (v u1 u3 u5 u6 u8 u9 u10 u11 u12 u13 u14 u15 u16 u17 u18 u19 u20 u21 u22 u23 u24 u25 u26 u27 u28 u29 u30 u31 u32 u33 u34 u35 u36 u37 u38 u39 u40 u41 u42 u43 u44 u45 u46 u47 u48 u49 u50 u51 u52 u53 u54 u55 u56 u57 u58 u59 u60 u61 u62 u63 u64 u65 u66 u67 u68 u69 u70 u71 u72 u73 u74 u75 u76 u77 u78 u79 u80 u81 u82 u83 u84 u85 u86 u87 u88 u89 u90 u91 u92 u93 u94 u95 u96 u97 u98 u99 u100 u101 u102 u103 u104 u105 u106 u107 u108 u109 u110 u111 u112 u113 u114 u115 u116 u117 u118 u119 u120 u121 u122 u123 u124 u125 u126 u127 u128 u129 u130 u131 u132 u133 u134 u135 u136 u137 u138 u139 u140 u141 u142 u143 u144 : Value) (pm : Pm w0 w b4 b7 v H ⟨k, x, y, 5, l, e, o, t⟩) (R : Ending → World → Prop)
    (hR : ∀ v' w', Own w' w0.heap.size w'.heap.size v' H → Below w0.heap.size w0 w' → R (.returned (.tuple #[v', .agg (hv ⟨k, x, y, 5, l, e, o, t⟩).toArray])) w') (rest : Code) (hr : findLabel body 0 = some (.seq .skip rest)) :
    rest.wp Try.prog (Scoped Try.prog body (bodyPost Try.prog Try.f130 R)) { tmps := #[v, u1, .int .i64 m, u3, .pointer (some ⟨b4, 0, none⟩), u5, u6, .pointer (some ⟨b7, 0, none⟩), u8, u9, u10, u11, u12, u13, u14, u15, u16, u17, u18, u19, u20, u21, u22, u23, u24, u25, u26, u27, u28, u29, u30, u31, u32, u33, u34, u35, u36, u37, u38, u39, u40, u41, u42, u43, u44, u45, u46, u47, u48, u49, u50, u51, u52, u53, u54, u55, u56, u57, u58, u59, u60, u61, u62, u63, u64, u65, u66, u67, u68, u69, u70, u71, u72, u73, u74, u75, u76, u77, u78, u79, u80, u81, u82, u83, u84, u85, u86, u87, u88, u89, u90, u91, u92, u93, u94, u95, u96, u97, u98, u99, u100, u101, u102, u103, u104, u105, u106, u107, u108, u109, u110, u111, u112, u113, u114, u115, u116, u117, u118, u119, u120, u121, u122, u123, u124, u125, u126, u127, u128, u129, u130, u131, u132, u133, u134, u135, u136, u137, u138, u139, u140, u141, u142, u143, u144], defers := [] } w := by
  obtain rfl := (Code.seq.inj (Option.some.inj ((rfl : findLabel body 0 = some (.seq .skip _)).symm.trans hr))).2
  clear hr
  have hm1 : ¬ m - 1 < 0 := by omega
  have hb := pm.hand
  obtain ⟨c0, c1, c2, c3, c4, c5, c6, c7⟩ := hb.cells
  go_wp2
  have S0 := hb.drew.cells
  have hr7 := pm.res
  obtain ⟨q0, q1, q2, q3, q4, q5, q6, q7⟩ := hr7.cells
  obtain ⟨g0, g1, g2, g3, g4, g5, g6, g7⟩ := hr7.fz
  have PM : Hid (Pm w0 w b4 b7 v H ⟨k, x, y, 5, l, e, o, t⟩) := pm
  have ne1 := pm.ne
  have ne2 : b7 ≠ b4 := Ne.symm pm.ne
  clear hr7 pm hb
  go_region
  go_wp2
  obtain ⟨lo, o1, o2, o3⟩ := PM.out.own
  have l7 := PM.out.lo7
  obtain ⟨hb8, hO8⟩ := fill8 PM.out.res k x y 5 l e o t
  refine scoped_ret (row_tmp_cell rfl rfl rfl hb8.blk Try.underlying58 sizeH rfl (hR _ _ ((o3.only hO8 o2).wide (by omega) (by have := hO8.1; omega)) (PM.out.below.trans (hO8.2.2 _ l7))))

set_option maxRecDepth 100000 in
set_option maxHeartbeats 4000000 in
theorem pass_act (w0 : World) (b4 b7 : Nat) (m : Int) (hm : 1 ≤ m) (hm2 : m ≤ 1000) (H : List C) (k x y l e o t : Int) (hok : heapOk H) (ok : OkH H ⟨k, x, y, 2, l, e, o, t⟩) (w : World) (v u1 u3 u5 u6 u8 u9 u10 u11 u12 u13 u14 u15 u16 u17 u18 u19 u20 u21 u22 u23 u24 u25 u26 u27 u28 u29 u30 u31 u32 u33 u34 u35 u36 u37 u38 u39 u40 u41 u42 u43 u44 u45 u46 u47 u48 u49 u50 u51 u52 u53 u54 u55 u56 u57 u58 u59 u60 u61 u62 u63 u64 u65 u66 u67 u68 u69 u70 u71 u72 u73 u74 u75 u76 u77 u78 u79 u80 u81 u82 u83 u84 u85 u86 u87 u88 u89 u90 u91 u92 u93 u94 u95 u96 u97 u98 u99 u100 u101 u102 u103 u104 u105 u106 u107 u108 u109 u110 u111 u112 u113 u114 u115 u116 u117 u118 u119 u120 u121 u122 u123 u124 u125 u126 u127 u128 u129 u130 u131 u132 u133 u134 u135 u136 u137 u138 u139 u140 u141 u142 u143 u144 : Value) (pm : Pm w0 w b4 b7 v H ⟨k, x, y, 2, l, e, o, t⟩) (Q : Exit → Act → World → Prop)
    (hnext : ∀ (w' : World) (v u1 u3 u5 u6 u8 u9 u10 u11 u12 u13 u14 u15 u16 u17 u18 u19 u20 u21 u22 u23 u24 u25 u26 u27 u28 u29 u30 u31 u32 u33 u34 u35 u36 u37 u38 u39 u40 u41 u42 u43 u44 u45 u46 u47 u48 u49 u50 u51 u52 u53 u54 u55 u56 u57 u58 u59 u60 u61 u62 u63 u64 u65 u66 u67 u68 u69 u70 u71 u72 u73 u74 u75 u76 u77 u78 u79 u80 u81 u82 u83 u84 u85 u86 u87 u88 u89 u90 u91 u92 u93 u94 u95 u96 u97 u98 u99 u100 u101 u102 u103 u104 u105 u106 u107 u108 u109 u110 u111 u112 u113 u114 u115 u116 u117 u118 u119 u120 u121 u122 u123 u124 u125 u126 u127 u128 u129 u130 u131 u132 u133 u134 u135 u136 u137 u138 u139 u140 u141 u142 u143 u144 : Value), Pm w0 w' b4 b7 v (moveA H ⟨k, x, y, 2, l, e, o, t⟩).1 (moveA H ⟨k, x, y, 2, l, e, o, t⟩).2 → Scoped Try.prog body Q (.goto 0) { tmps := #[v, u1, .int .i64 (m - 1), u3, .pointer (some ⟨b4, 0, none⟩), u5, u6, .pointer (some ⟨b7, 0, none⟩), u8, u9, u10, u11, u12, u13, u14, u15, u16, u17, u18, u19, u20, u21, u22, u23, u24, u25, u26, u27, u28, u29, u30, u31, u32, u33, u34, u35, u36, u37, u38, u39, u40, u41, u42, u43, u44, u45, u46, u47, u48, u49, u50, u51, u52, u53, u54, u55, u56, u57, u58, u59, u60, u61, u62, u63, u64, u65, u66, u67, u68, u69, u70, u71, u72, u73, u74, u75, u76, u77, u78, u79, u80, u81, u82, u83, u84, u85, u86, u87, u88, u89, u90, u91, u92, u93, u94, u95, u96, u97, u98, u99, u100, u101, u102, u103, u104, u105, u106, u107, u108, u109, u110, u111, u112, u113, u114, u115, u116, u117, u118, u119, u120, u121, u122, u123, u124, u125, u126, u127, u128, u129, u130, u131, u132, u133, u134, u135, u136, u137, u138, u139, u140, u141, u142, u143, u144], defers := [] } w')
    (rest : Code) (hr : findLabel body 0 = some (.seq .skip rest)) :
    rest.wp Try.prog (Scoped Try.prog body Q) { tmps := #[v, u1, .int .i64 m, u3, .pointer (some ⟨b4, 0, none⟩), u5, u6, .pointer (some ⟨b7, 0, none⟩), u8, u9, u10, u11, u12, u13, u14, u15, u16, u17, u18, u19, u20, u21, u22, u23, u24, u25, u26, u27, u28, u29, u30, u31, u32, u33, u34, u35, u36, u37, u38, u39, u40, u41, u42, u43, u44, u45, u46, u47, u48, u49, u50, u51, u52, u53, u54, u55, u56, u57, u58, u59, u60, u61, u62, u63, u64, u65, u66, u67, u68, u69, u70, u71, u72, u73, u74, u75, u76, u77, u78, u79, u80, u81, u82, u83, u84, u85, u86, u87, u88, u89, u90, u91, u92, u93, u94, u95, u96, u97, u98, u99, u100, u101, u102, u103, u104, u105, u106, u107, u108, u109, u110, u111, u112, u113, u114, u115, u116, u117, u118, u119, u120, u121, u122, u123, u124, u125, u126, u127, u128, u129, u130, u131, u132, u133, u134, u135, u136, u137, u138, u139, u140, u141, u142, u143, u144], defers := [] } w := by
  obtain rfl := (Code.seq.inj (Option.some.inj ((rfl : findLabel body 0 = some (.seq .skip _)).symm.trans hr))).2
  clear hr
  have hm1 : ¬ m - 1 < 0 := by omega
  have NX : Hid (∀ (w' : World) (v u1 u3 u5 u6 u8 u9 u10 u11 u12 u13 u14 u15 u16 u17 u18 u19 u20 u21 u22 u23 u24 u25 u26 u27 u28 u29 u30 u31 u32 u33 u34 u35 u36 u37 u38 u39 u40 u41 u42 u43 u44 u45 u46 u47 u48 u49 u50 u51 u52 u53 u54 u55 u56 u57 u58 u59 u60 u61 u62 u63 u64 u65 u66 u67 u68 u69 u70 u71 u72 u73 u74 u75 u76 u77 u78 u79 u80 u81 u82 u83 u84 u85 u86 u87 u88 u89 u90 u91 u92 u93 u94 u95 u96 u97 u98 u99 u100 u101 u102 u103 u104 u105 u106 u107 u108 u109 u110 u111 u112 u113 u114 u115 u116 u117 u118 u119 u120 u121 u122 u123 u124 u125 u126 u127 u128 u129 u130 u131 u132 u133 u134 u135 u136 u137 u138 u139 u140 u141 u142 u143 u144 : Value), Pm w0 w' b4 b7 v (moveA H ⟨k, x, y, 2, l, e, o, t⟩).1 (moveA H ⟨k, x, y, 2, l, e, o, t⟩).2 → Scoped Try.prog body Q (.goto 0) { tmps := #[v, u1, .int .i64 (m - 1), u3, .pointer (some ⟨b4, 0, none⟩), u5, u6, .pointer (some ⟨b7, 0, none⟩), u8, u9, u10, u11, u12, u13, u14, u15, u16, u17, u18, u19, u20, u21, u22, u23, u24, u25, u26, u27, u28, u29, u30, u31, u32, u33, u34, u35, u36, u37, u38, u39, u40, u41, u42, u43, u44, u45, u46, u47, u48, u49, u50, u51, u52, u53, u54, u55, u56, u57, u58, u59, u60, u61, u62, u63, u64, u65, u66, u67, u68, u69, u70, u71, u72, u73, u74, u75, u76, u77, u78, u79, u80, u81, u82, u83, u84, u85, u86, u87, u88, u89, u90, u91, u92, u93, u94, u95, u96, u97, u98, u99, u100, u101, u102, u103, u104, u105, u106, u107, u108, u109, u110, u111, u112, u113, u114, u115, u116, u117, u118, u119, u120, u121, u122, u123, u124, u125, u126, u127, u128, u129, u130, u131, u132, u133, u134, u135, u136, u137, u138, u139, u140, u141, u142, u143, u144], defers := [] } w') := hnext
  have PM : Hid (Pm w0 w b4 b7 v H ⟨k, x, y, 2, l, e, o, t⟩) := pm
  have hb := pm.hand
  have h1 := hok.1.1
  obtain ⟨lo, o1, o2, o3⟩ := pm.own
  obtain ⟨g, cap, rfl, hg1, hg2, -⟩ := o3.form h1
  have R := o3.rd
  have ng1 : g ≠ b4 := by omega
  have ng2 : b4 ≠ g := by omega
  have CE : Hid (∀ (i : Nat) (hi : i < H.length), _) := fun i hi => o3.cell i hi
  obtain ⟨c0, c1, c2, c3, c4, c5, c6, c7⟩ := hb.cells
  obtain ⟨f0, f1, f2, f3, f4, f5, f6, f7⟩ := hb.fz
  clear hnext pm
  have HO : Hid (heapOk H) := hok
  have OK : Hid (OkH H ⟨k, x, y, 2, l, e, o, t⟩) := ok
  obtain ⟨⟨L, ⟨k9, x9, y9, s9, l9, e9, o9, t9⟩⟩, MA⟩ := hid_ex (moveA H ⟨k, x, y, 2, l, e, o, t⟩)
  rw [MA.out] at NX
  clear hok ok o3 hb CE
  have RR : Hid (Rd w w.heap.size (.slice (some ⟨g, 0, none⟩) H.length cap) H) := R
  clear R
  go_wp2
  go_step3
  refine scoped_goto rfl ?_
  go_wp2_with (first | (go_at_call 132; refine (implActed_any H ⟨k, x, y, 2, l, e, o, t⟩ HO.out OK.out rfl _ w.heap.size w (Nat.le_refl _) RR.out).mono ?_; rintro er w1 ⟨v', he, hO', hB1⟩; rw [MA.out] at he hO'; subst he; dsimp only [hv]; have p1 : Pm w0 w1 b4 b7 v' L ⟨k, x, y, 2, l, e, o, t⟩ := (by rcases hO' with ⟨rfl, q⟩ | q; (· rw [show L = H from q]; exact PM.out.call hB1); (· exact PM.out.fresh hB1 q))) | (refine wpList_store_v rfl 58 _ _ rfl b4 (hv ⟨k9, x9, y9, s9, l9, e9, o9, t9⟩) rfl rfl sizeH p1.hand.blk rfl (hv_one _) ?_; intro w2 hO2 hV2; have p2 := p1.turn hO2 (d' := ⟨k9, x9, y9, s9, l9, e9, o9, t9⟩) ⟨hV2⟩) | (fail))
  go_step3
  exact NX.out _ _ _ _ _ _ _ _ _ _ _ _ _ _ _ _ _ _ _ _ _ _ _ _ _ _ _ _ _ _ _ _ _ _ _ _ _ _ _ _ _ _ _ _ _ _ _ _ _ _ _ _ _ _ _ _ _ _ _ _ _ _ _ _ _ _ _ _ _ _ _ _ _ _ _ _ _ _ _ _ _ _ _ _ _ _ _ _ _ _ _ _ _ _ _ _ _ _ _ _ _ _ _ _ _ _ _ _ _ _ _ _ _ _ _ _ _ _ _ _ _ _ _ _ _ _ _ _ _ _ _ _ _ _ _ _ _ _ _ _ _ _ _ (p2)
end Go.Proofs.Ythjkhghlhjndmaa.ce
