/- The walk of the law FnHands. -/
import Derived.Test.YtodpbghkjnlfdaaMg34
import Derived.Test.YtodpbghkjnlfdaaMg21
import Derived.Test.YtodpbghkjnlfdaaMg19
import Derived.Test.YtodpbghkjnlfdaaIh7
import Derived.Test.YtodpbghkjnlfdaaIh9
import Derived.Test.YtodpbghkjnlfdaaMg35
import Derived.Test.YtodpbghkjnlfdaaMg05
import Derived.Test.YtodpbghkjnlfdaaPl12
import Derived.Deep.DeepCutAuto
namespace Go.Proofs.Ytodpbghkjnlfdaa.lawHd
open Go.ChangeShapes Go.WideShapes Go.ChangeAt Go.RowKit
open Go.Proofs.Ytodpbghkjnlfdaa.ce Go.Proofs.Ytodpbghkjnlfdaa.draw
set_option linter.unusedVariables false

theorem handB_new (k x y : Int) (h : asksB k x = true) : handB [c0] (newD k x y) = true := by
  rw [handB_pos ok_c0, show newD k x y = ⟨k, x, y, 0, -1, -1, -1, 0⟩ from if_pos h, newB]; exact h
theorem moved_no {H L : List C} {d D : Hd} (h : handB H d = false) (e : movedP H d = (L, D)) : L = [] ∧ D = ⟨0, 0, 0, 0, 0, 0, 0, 0⟩ := by
  unfold movedP at e
  rw [if_neg (by rw [h]; simp)] at e
  cases e
  exact ⟨rfl, rfl⟩
theorem moved_yes {H L : List C} {d D : Hd} (h : handB H d = true) (e : movedP H d = (L, D)) : heapOk H ∧ Keeps H d L D := by
  unfold movedP at e
  rw [if_pos h] at e
  obtain ⟨h1, h2⟩ := handB_iff.1 h
  have := move_keeps h1 h2
  rw [e] at this
  exact ⟨h1, this⟩

set_option maxRecDepth 100000 in
set_option maxHeartbeats 16000000 in
theorem walk (a0 : Option Addr) (len cap : Nat) (w : World) (hl : len ≤ 4096) (hcode0 : CodeAt w a0 len) :
    Calls Try.prog 7 #[.slice a0 len cap] w fun e w' => e = .returned (.bool true) ∧ Below w.heap.size w w' := by
  have hC : Hid (CodeAt w a0 len) := hcode0
  clear hcode0
  have hl' : ¬ (4096 : Int) < (len : Int) := by omega
  have hB : Below w.heap.size w w := Below.refl _ _
  have hzw : w.heap.size ≤ w.heap.size := Nat.le_refl _
  have ma1 : Hid True := trivial
  have ma2 : Hid True := trivial
  have ma3 : Hid True := trivial
  have ma4 : Hid True := trivial
  have ma5 : Hid True := trivial
  have ma6 : Hid True := trivial
  have ma7 : Hid True := trivial
  have ma8 : Hid True := trivial
  have ma9 : Hid True := trivial
  have ma10 : Hid True := trivial
  have ma11 : Hid True := trivial
  have ma12 : Hid True := trivial
  have ma13 : Hid True := trivial
  go_enter Try.func7, Try.ntmps7
  go_wp2_with (first | (go_at_call 24; go_in) | (clear ma1; go_at_call 25; refine (drawMoved_any _ a0 len cap hC.out).mono ?_; rintro er w1 ⟨vh, d, rfl, H, dh1⟩; have hB1 := dh1.bel; have oh := dh1.own; obtain ⟨k, x, y, s, l, e, o, t⟩ := d; dsimp only [hv]; obtain ⟨⟨L, ⟨k9, x9, y9, s9, l9, e9, o9, t9⟩⟩, E7⟩ := hid_ex (movedP H ⟨k, x, y, s, l, e, o, t⟩); obtain ⟨yb, hyb⟩ := hid_ex (handB H ⟨k, x, y, s, l, e, o, t⟩); clear dh1; have hz1 : w.heap.size ≤ w1.heap.size := hB1.size; replace hB := hB.trans (hB1.mono (by omega)); replace hzw := hB.size) | (clear ma2; refine wpList_alloc_v rfl 29 rfl _ zeroH ?_; intro b4 w2 hb4 hw4 hB2 hVz; have hz2 : w1.heap.size ≤ w2.heap.size := hB2.size; replace oh := oh.below hB2 (by omega); replace hB := hB.trans (hB2.mono (by omega)); replace hzw := hB.size; have h4 : HB w2 b4 ⟨0, 0, 0, 0, 0, 0, 0, 0⟩ := ⟨hVz⟩; clear hVz) | (clear ma3; refine wpList_store_v rfl 29 _ _ rfl b4 (hv ⟨k, x, y, s, l, e, o, t⟩) rfl rfl sizeH h4.blk rfl (hv_one _) ?_; intro w3 hO3 hVs; have hz3 : w2.heap.size ≤ w3.heap.size := (Nat.le_of_eq hO3.1.symm); replace oh := oh.keep (w' := w3) (fun k g1 g2 => hO3.2.1 k (by omega)); replace hB := hB.trans (hO3.2.2 _ (by omega)); replace hzw := hB.size; replace h4 : HB w3 b4 ⟨k, x, y, s, l, e, o, t⟩ := ⟨hVs⟩; clear hVs; obtain ⟨ca0, ca1, ca2, ca3, ca4, ca5, ca6, ca7⟩ := h4.cells) | (clear ma4; go_at_call 19; refine (implMoved_any H ⟨k, x, y, s, l, e, o, t⟩ _ w1.heap.size _ (by omega) oh.rd).mono ?_; rintro er w4 ⟨vx, he, ox, hB4⟩; rw [E7.out] at he ox; subst he; dsimp only [hv]; clear ca0 ca1 ca2 ca3 ca4 ca5 ca6 ca7; have hz4 : w3.heap.size ≤ w4.heap.size := hB4.size; replace oh := oh.below hB4 (by omega); replace h4 := h4.below hB4 (by omega); replace hB := hB.trans (hB4.mono (by omega)); replace hzw := hB.size) | (clear ma5; refine wpList_alloc_v rfl 29 rfl _ zeroH ?_; intro b6 w5 hb6 hw6 hB5 hVz; have hz5 : w4.heap.size ≤ w5.heap.size := hB5.size; replace oh := oh.below hB5 (by omega); replace h4 := h4.below hB5 (by omega); replace ox := ox.below hB5 (by omega); replace hB := hB.trans (hB5.mono (by omega)); replace hzw := hB.size; have h6 : HB w5 b6 ⟨0, 0, 0, 0, 0, 0, 0, 0⟩ := ⟨hVz⟩; clear hVz) | (clear ma6; refine wpList_store_v rfl 29 _ _ rfl b6 (hv ⟨k9, x9, y9, s9, l9, e9, o9, t9⟩) rfl rfl sizeH h6.blk rfl (hv_one _) ?_; intro w6 hO6 hVs; have hz6 : w5.heap.size ≤ w6.heap.size := (Nat.le_of_eq hO6.1.symm); replace oh := oh.keep (w' := w6) (fun k g1 g2 => hO6.2.1 k (by omega)); replace h4 := h4.keep (w' := w6) (fun k g1 g2 => hO6.2.1 k (by omega)); replace ox := ox.keep (w' := w6) (fun k g1 g2 => hO6.2.1 k (by omega)); replace hB := hB.trans (hO6.2.2 _ (by omega)); replace hzw := hB.size; replace h6 : HB w6 b6 ⟨k9, x9, y9, s9, l9, e9, o9, t9⟩ := ⟨hVs⟩; clear hVs) | (clear ma7; go_at_call 26; refine (drawNewHand_any _ a0 len cap (code_at hC.out hB)).mono ?_; rintro er w7 ⟨kd, ky, vl, rfl, hB7⟩; obtain ⟨⟨kN, xN, yN, sN, lN, eN, oN, tN⟩, EN⟩ := hid_ex (newD kd ky vl); obtain ⟨zb, hzb⟩ := hid_ex (asksB kd ky); have hz7 : w6.heap.size ≤ w7.heap.size := hB7.size; replace oh := oh.below hB7 (by omega); replace h4 := h4.below hB7 (by omega); replace ox := ox.below hB7 (by omega); replace h6 := h6.below hB7 (by omega); replace hB := hB.trans (hB7.mono (by omega)); replace hzw := hB.size) | (clear ma8; go_at_call 16; refine (implNewHand_any kd ky vl _).mono ?_; rintro er w8 ⟨he, hB8⟩; rw [EN.out, hzb.out] at he; subst he; dsimp only [hv]; have hz8 : w7.heap.size ≤ w8.heap.size := hB8.size; replace oh := oh.below hB8 (by omega); replace h4 := h4.below hB8 (by omega); replace ox := ox.below hB8 (by omega); replace h6 := h6.below hB8 (by omega); replace hB := hB.trans (hB8.mono (by omega)); replace hzw := hB.size) | (clear ma9; refine wpList_alloc_v rfl 29 rfl _ zeroH ?_; intro b10 w9 hb10 hw10 hB9 hVz; have hz9 : w8.heap.size ≤ w9.heap.size := hB9.size; replace oh := oh.below hB9 (by omega); replace h4 := h4.below hB9 (by omega); replace ox := ox.below hB9 (by omega); replace h6 := h6.below hB9 (by omega); replace hB := hB.trans (hB9.mono (by omega)); replace hzw := hB.size; have h10 : HB w9 b10 ⟨0, 0, 0, 0, 0, 0, 0, 0⟩ := ⟨hVz⟩; clear hVz) | (clear ma10; refine wpList_store_v rfl 29 _ _ rfl b10 (hv ⟨kN, xN, yN, sN, lN, eN, oN, tN⟩) rfl rfl sizeH h10.blk rfl (hv_one _) ?_; intro w10 hO10 hVs; have hz10 : w9.heap.size ≤ w10.heap.size := (Nat.le_of_eq hO10.1.symm); replace oh := oh.keep (w' := w10) (fun k g1 g2 => hO10.2.1 k (by omega)); replace h4 := h4.keep (w' := w10) (fun k g1 g2 => hO10.2.1 k (by omega)); replace ox := ox.keep (w' := w10) (fun k g1 g2 => hO10.2.1 k (by omega)); replace h6 := h6.keep (w' := w10) (fun k g1 g2 => hO10.2.1 k (by omega)); replace hB := hB.trans (hO10.2.2 _ (by omega)); replace hzw := hB.size; replace h10 : HB w10 b10 ⟨kN, xN, yN, sN, lN, eN, oN, tN⟩ := ⟨hVs⟩; clear hVs; obtain ⟨cb0, cb1, cb2, cb3, cb4, cb5, cb6, cb7⟩ := h4.cells) | (clear ma11; go_at_call 18; refine (specMoved_any H ⟨k, x, y, s, l, e, o, t⟩ _ w1.heap.size _ (by omega) oh.rd).mono ?_; rintro er w11 ⟨vu, he, ou, hB11⟩; rw [E7.out] at he ou; subst he; dsimp only [hv]; clear cb0 cb1 cb2 cb3 cb4 cb5 cb6 cb7; have hz11 : w10.heap.size ≤ w11.heap.size := hB11.size; replace oh := oh.below hB11 (by omega); replace h4 := h4.below hB11 (by omega); replace ox := ox.below hB11 (by omega); replace h6 := h6.below hB11 (by omega); replace h10 := h10.below hB11 (by omega); replace hB := hB.trans (hB11.mono (by omega)); replace hzw := hB.size) | (clear ma12; refine wpList_alloc_v rfl 29 rfl _ zeroH ?_; intro b13 w12 hb13 hw13 hB12 hVz; have hz12 : w11.heap.size ≤ w12.heap.size := hB12.size; replace oh := oh.below hB12 (by omega); replace h4 := h4.below hB12 (by omega); replace ox := ox.below hB12 (by omega); replace h6 := h6.below hB12 (by omega); replace h10 := h10.below hB12 (by omega); replace ou := ou.below hB12 (by omega); replace hB := hB.trans (hB12.mono (by omega)); replace hzw := hB.size; have h13 : HB w12 b13 ⟨0, 0, 0, 0, 0, 0, 0, 0⟩ := ⟨hVz⟩; clear hVz) | (clear ma13; refine wpList_store_v rfl 29 _ _ rfl b13 (hv ⟨k9, x9, y9, s9, l9, e9, o9, t9⟩) rfl rfl sizeH h13.blk rfl (hv_one _) ?_; intro w13 hO13 hVs; have hz13 : w12.heap.size ≤ w13.heap.size := (Nat.le_of_eq hO13.1.symm); replace oh := oh.keep (w' := w13) (fun k g1 g2 => hO13.2.1 k (by omega)); replace h4 := h4.keep (w' := w13) (fun k g1 g2 => hO13.2.1 k (by omega)); replace ox := ox.keep (w' := w13) (fun k g1 g2 => hO13.2.1 k (by omega)); replace h6 := h6.keep (w' := w13) (fun k g1 g2 => hO13.2.1 k (by omega)); replace h10 := h10.keep (w' := w13) (fun k g1 g2 => hO13.2.1 k (by omega)); replace ou := ou.keep (w' := w13) (fun k g1 g2 => hO13.2.1 k (by omega)); replace hB := hB.trans (hO13.2.2 _ (by omega)); replace hzw := hB.size; replace h13 : HB w13 b13 ⟨k9, x9, y9, s9, l9, e9, o9, t9⟩ := ⟨hVs⟩; clear hVs) | (fail))
  have S0 := And.intro h6.drew.cells (And.intro h13.drew.cells h4.drew.cells)
  have hyy : (yb != yb) = false := by simp
  go_region_held3 (fun w' => (w'.cell? ⟨b6, 0, none⟩ = some (.int .i64 k9) ∧ w'.cell? ⟨b6, 1, none⟩ = some (.int .i64 x9) ∧ w'.cell? ⟨b6, 2, none⟩ = some (.int .i64 y9) ∧ w'.cell? ⟨b6, 3, none⟩ = some (.int .i64 s9) ∧ w'.cell? ⟨b6, 4, none⟩ = some (.int .i64 l9) ∧ w'.cell? ⟨b6, 5, none⟩ = some (.int .i64 e9) ∧ w'.cell? ⟨b6, 6, none⟩ = some (.int .i64 o9) ∧ w'.cell? ⟨b6, 7, none⟩ = some (.int .i64 t9)) ∧ (w'.cell? ⟨b13, 0, none⟩ = some (.int .i64 k9) ∧ w'.cell? ⟨b13, 1, none⟩ = some (.int .i64 x9) ∧ w'.cell? ⟨b13, 2, none⟩ = some (.int .i64 y9) ∧ w'.cell? ⟨b13, 3, none⟩ = some (.int .i64 s9) ∧ w'.cell? ⟨b13, 4, none⟩ = some (.int .i64 l9) ∧ w'.cell? ⟨b13, 5, none⟩ = some (.int .i64 e9) ∧ w'.cell? ⟨b13, 6, none⟩ = some (.int .i64 o9) ∧ w'.cell? ⟨b13, 7, none⟩ = some (.int .i64 t9)) ∧ (w'.cell? ⟨b4, 0, none⟩ = some (.int .i64 k) ∧ w'.cell? ⟨b4, 1, none⟩ = some (.int .i64 x) ∧ w'.cell? ⟨b4, 2, none⟩ = some (.int .i64 y) ∧ w'.cell? ⟨b4, 3, none⟩ = some (.int .i64 s) ∧ w'.cell? ⟨b4, 4, none⟩ = some (.int .i64 l) ∧ w'.cell? ⟨b4, 5, none⟩ = some (.int .i64 e) ∧ w'.cell? ⟨b4, 6, none⟩ = some (.int .i64 o) ∧ w'.cell? ⟨b4, 7, none⟩ = some (.int .i64 t))) (first | assumption | exact S0 | (fail)) (first | (go_at_call 27; refine (likeHeap_any L _ _ w4.heap.size w11.heap.size w13.drew (by show _ ≤ w13.heap.size; omega) (by show _ ≤ w13.heap.size; omega) (ox.rd).drew (ou.rd).drew).mono ?_; rintro er w14 ⟨rfl, hB14⟩; have hz14 : w13.heap.size ≤ w14.heap.size := hB14.size; have h4_14 := (h4.drew).below (w' := w14) hB14 (by first | omega | (show _ ≤ w13.heap.size; omega)); have h6_14 := (h6.drew).below (w' := w14) hB14 (by first | omega | (show _ ≤ w13.heap.size; omega)); have h13_14 := (h13.drew).below (w' := w14) hB14 (by first | omega | (show _ ≤ w13.heap.size; omega)); have oh_14 := oh.keep (w' := w14) (fun k g1 g2 => hB14.block k (by first | omega | (show k < w13.heap.size; omega))); have ox_14 := ox.keep (w' := w14) (fun k g1 g2 => hB14.block k (by first | omega | (show k < w13.heap.size; omega))); have ou_14 := ou.keep (w' := w14) (fun k g1 g2 => hB14.block k (by first | omega | (show k < w13.heap.size; omega))); have hBa14 : Below w.heap.size w w14 := hB.drew.trans (hB14.mono (by show w.heap.size ≤ w13.heap.size; omega)); have S14 := And.intro h6_14.cells (And.intro h13_14.cells h4_14.cells)) | (go_at_call 13; refine (implHandOk_any H ⟨k, x, y, s, l, e, o, t⟩ _ w1.heap.size w14 (by omega) oh_14.rd).mono ?_; rintro er w15 ⟨he, hB15⟩; rw [hyb.out] at he; subst he; have hz15 : w14.heap.size ≤ w15.heap.size := hB15.size; have h4_15 := (h4_14).below (w' := w15) hB15 (by first | omega | (show _ ≤ w13.heap.size; omega)); have h6_15 := (h6_14).below (w' := w15) hB15 (by first | omega | (show _ ≤ w13.heap.size; omega)); have h13_15 := (h13_14).below (w' := w15) hB15 (by first | omega | (show _ ≤ w13.heap.size; omega)); have oh_15 := oh_14.keep (w' := w15) (fun k g1 g2 => hB15.block k (by first | omega | (show k < w13.heap.size; omega))); have ox_15 := ox_14.keep (w' := w15) (fun k g1 g2 => hB15.block k (by first | omega | (show k < w13.heap.size; omega))); have ou_15 := ou_14.keep (w' := w15) (fun k g1 g2 => hB15.block k (by first | omega | (show k < w13.heap.size; omega))); have hBa15 : Below w.heap.size w w15 := hBa14.trans (hB15.mono (by have := hBa14.size; omega)); have S15 := And.intro h6_15.cells (And.intro h13_15.cells h4_15.cells)) | (go_at_call 10; refine (specHandOk_any H ⟨k, x, y, s, l, e, o, t⟩ _ w1.heap.size w15 (by omega) oh_15.rd).mono ?_; rintro er w16 ⟨he, hB16⟩; rw [hyb.out] at he; subst he; have hz16 : w15.heap.size ≤ w16.heap.size := hB16.size; have h4_16 := (h4_15).below (w' := w16) hB16 (by first | omega | (show _ ≤ w13.heap.size; omega)); have h6_16 := (h6_15).below (w' := w16) hB16 (by first | omega | (show _ ≤ w13.heap.size; omega)); have h13_16 := (h13_15).below (w' := w16) hB16 (by first | omega | (show _ ≤ w13.heap.size; omega)); have oh_16 := oh_15.keep (w' := w16) (fun k g1 g2 => hB16.block k (by first | omega | (show k < w13.heap.size; omega))); have ox_16 := ox_15.keep (w' := w16) (fun k g1 g2 => hB16.block k (by first | omega | (show k < w13.heap.size; omega))); have ou_16 := ou_15.keep (w' := w16) (fun k g1 g2 => hB16.block k (by first | omega | (show k < w13.heap.size; omega))); have hBa16 : Below w.heap.size w w16 := hBa15.trans (hB16.mono (by have := hBa15.size; omega)); have S16 := And.intro h6_16.cells (And.intro h13_16.cells h4_16.cells)) | (fail))
  have h10_ : HB w16 b10 ⟨kN, xN, yN, sN, lN, eN, oN, tN⟩ := ((h10.of (w' := w14) (hB14.block b10 (by show b10 < w13.heap.size; omega))).of (hB15.block b10 (by omega))).of (hB16.block b10 (by omega))
  replace hB := hBa16
  replace hzw := hB.size
  clear S0 h4 h6 h13 h10 oh ox ou h4_14 h4_15 h6_14 h6_15 h13_14 h13_15 oh_14 oh_15 ox_14 ox_15 ou_14 ou_15
  have h4 := h4_16; have h6 := h6_16; have h10 := h10_; have oh := oh_16; have ox := ox_16
  clear h4_16 h6_16 h13_16 h10_ oh_16 ox_16 ou_16
  have mb1 : Hid True := trivial
  have mb2 : Hid True := trivial
  have mb3 : Hid True := trivial
  go_wp2_with (first | (clear mb1; go_at_call 15; refine (specNewHand_any kd ky vl _).mono ?_; rintro er w17 ⟨he, hB17⟩; rw [EN.out, hzb.out] at he; subst he; dsimp only [hv]; have hz17 : w16.heap.size ≤ w17.heap.size := hB17.size; replace h4 := h4.below hB17 (by omega); replace h6 := h6.below hB17 (by omega); replace h10 := h10.below hB17 (by omega); replace oh := oh.below hB17 (by omega); replace ox := ox.below hB17 (by omega); replace hB := hB.trans (hB17.mono (by omega)); replace hzw := hB.size) | (clear mb2; refine wpList_alloc_v rfl 29 rfl _ zeroH ?_; intro b14 w18 hb14 hw14 hB18 hVz; have hz18 : w17.heap.size ≤ w18.heap.size := hB18.size; replace h4 := h4.below hB18 (by omega); replace h6 := h6.below hB18 (by omega); replace h10 := h10.below hB18 (by omega); replace oh := oh.below hB18 (by omega); replace ox := ox.below hB18 (by omega); replace hB := hB.trans (hB18.mono (by omega)); replace hzw := hB.size; have h14 : HB w18 b14 ⟨0, 0, 0, 0, 0, 0, 0, 0⟩ := ⟨hVz⟩; clear hVz) | (clear mb3; refine wpList_store_v rfl 29 _ _ rfl b14 (hv ⟨kN, xN, yN, sN, lN, eN, oN, tN⟩) rfl rfl sizeH h14.blk rfl (hv_one _) ?_; intro w19 hO19 hVs; have hz19 : w18.heap.size ≤ w19.heap.size := (Nat.le_of_eq hO19.1.symm); replace h4 := h4.keep (w' := w19) (fun k g1 g2 => hO19.2.1 k (by omega)); replace h6 := h6.keep (w' := w19) (fun k g1 g2 => hO19.2.1 k (by omega)); replace h10 := h10.keep (w' := w19) (fun k g1 g2 => hO19.2.1 k (by omega)); replace oh := oh.keep (w' := w19) (fun k g1 g2 => hO19.2.1 k (by omega)); replace ox := ox.keep (w' := w19) (fun k g1 g2 => hO19.2.1 k (by omega)); replace hB := hB.trans (hO19.2.2 _ (by omega)); replace hzw := hB.size; replace h14 : HB w19 b14 ⟨kN, xN, yN, sN, lN, eN, oN, tN⟩ := ⟨hVs⟩; clear hVs) | (fail))
  have hzz : (zb != zb) = false := by simp
  have CB : Hid (zb = true → handB [c0] ⟨kN, xN, yN, sN, lN, eN, oN, tN⟩ = true) := fun z => by rw [← EN.out]; exact handB_new kd ky vl (by rw [hzb.out]; exact z)
  go_cut [91] (fun p wc => p = .bool false ∧ Below w19.heap.size w19 wc)
  case first =>
    cases zb with
    | true =>
      have CB2 : Hid (handB [c0] ⟨kN, xN, yN, sN, lN, eN, oN, tN⟩ = true) := CB.out rfl
      have h10w := h10.lt
      have h14w := h14.lt
      have S0 := And.intro h10.drew.cells h14.drew.cells
      go_region_held3 (fun w' => (w'.cell? ⟨b10, 0, none⟩ = some (.int .i64 kN) ∧ w'.cell? ⟨b10, 1, none⟩ = some (.int .i64 xN) ∧ w'.cell? ⟨b10, 2, none⟩ = some (.int .i64 yN) ∧ w'.cell? ⟨b10, 3, none⟩ = some (.int .i64 sN) ∧ w'.cell? ⟨b10, 4, none⟩ = some (.int .i64 lN) ∧ w'.cell? ⟨b10, 5, none⟩ = some (.int .i64 eN) ∧ w'.cell? ⟨b10, 6, none⟩ = some (.int .i64 oN) ∧ w'.cell? ⟨b10, 7, none⟩ = some (.int .i64 tN)) ∧ (w'.cell? ⟨b14, 0, none⟩ = some (.int .i64 kN) ∧ w'.cell? ⟨b14, 1, none⟩ = some (.int .i64 xN) ∧ w'.cell? ⟨b14, 2, none⟩ = some (.int .i64 yN) ∧ w'.cell? ⟨b14, 3, none⟩ = some (.int .i64 sN) ∧ w'.cell? ⟨b14, 4, none⟩ = some (.int .i64 lN) ∧ w'.cell? ⟨b14, 5, none⟩ = some (.int .i64 eN) ∧ w'.cell? ⟨b14, 6, none⟩ = some (.int .i64 oN) ∧ w'.cell? ⟨b14, 7, none⟩ = some (.int .i64 tN))) (first | assumption | exact S0 | (fail)) (first | (go_at_call 28; refine (implNewHeap_any w19.drew).mono ?_; rintro er wn1 ⟨v1, rfl, ho1, hBn1⟩; have hzn1 : w19.heap.size ≤ wn1.heap.size := hBn1.size; have ha1 := h10.drew.below (w' := wn1) hBn1 (by show b10 + 1 ≤ w19.heap.size; omega); have hb1 := h14.drew.below (w' := wn1) hBn1 (by show b14 + 1 ≤ w19.heap.size; omega); have Sn1 := And.intro ha1.cells hb1.cells) | (go_at_call 13; refine (implHandOk_any [c0] ⟨kN, xN, yN, sN, lN, eN, oN, tN⟩ _ wn1.heap.size wn1 (Nat.le_refl _) ho1.rd).mono ?_; rintro er wn2 ⟨he, hBn2⟩; rw [CB2.out] at he; subst he; have ha2 := ha1.below hBn2 (by omega); have hb2 := hb1.below hBn2 (by omega); have Sn2 := And.intro ha2.cells hb2.cells) | (fail))
      go_wp2
      go_meet
      case rel => exact ⟨rfl, (((Below.refl w19.heap.size w19).drew).trans (hBn1.mono (Nat.le_refl _))).trans (hBn2.mono hzn1)⟩
    | false =>
      obtain ⟨cc0, cc1, cc2, cc3, cc4, cc5, cc6, cc7⟩ := h10.cells
      obtain ⟨cd0, cd1, cd2, cd3, cd4, cd5, cd6, cd7⟩ := h14.cells
      try go_frame
      go_big_quiet (fail)
      go_wp2
      go_meet
      case rel => exact ⟨rfl, below_drewN _ _⟩
  case rest =>
    rename World => w20
    obtain ⟨rfl, hB20⟩ := hcut
    have hz20 : w19.heap.size ≤ w20.heap.size := hB20.size
    replace h4 := h4.below hB20 (by omega)
    replace h6 := h6.below hB20 (by omega)
    replace oh := oh.below hB20 (by omega)
    replace ox := ox.below hB20 (by omega)
    replace hB := hB.trans (hB20.mono (by omega))
    replace hzw := hB.size
    have HBW : Hid (Below w.heap.size w w20) := hB
    obtain ⟨cc0, cc1, cc2, cc3, cc4, cc5, cc6, cc7⟩ := h4.cells
    obtain ⟨vxa, vxc, rfl⟩ := ox.rd.form
    clear CB EN hzb hzz h10 h14
    cases yb with
    | false =>
      obtain ⟨rfl, e9⟩ := moved_no hyb.out E7.out
      cases e9
      have ho := h6
      clear E7 hyy
      have my1 : Hid True := trivial
      go_wp2_with (first | (clear my1; go_at_call 10; refine (specHandOk_any H ⟨k, x, y, s, l, e, o, t⟩ _ w1.heap.size _ (by omega) oh.rd).mono ?_; rintro er wy ⟨he, hBy⟩; rw [hyb.out] at he; subst he; replace h6 := h6.below hBy (by omega); obtain ⟨cd0, cd1, cd2, cd3, cd4, cd5, cd6, cd7⟩ := h6.cells) | (fail))
      go_ret
      exact ⟨rfl, hB.trans (hBy.mono (by omega))⟩
    | true =>
      obtain ⟨hok, kp⟩ := moved_yes hyb.out E7.out
      have kk : Hid (Keeps H ⟨k, x, y, s, l, e, o, t⟩ L ⟨k9, x9, y9, s9, l9, e9, o9, t9⟩) := kp
      have hk9 : k9 = k := kp.kind
      have hx9 : x9 = x := kp.key
      have hy9 : y9 = y := kp.value
      have HBX : Hid (handB L ⟨k9, x9, y9, s9, l9, e9, o9, t9⟩ = true) := handB_iff.2 ⟨kp.heap, kp.hand⟩
      have eH : Hid (livingL H = living H) := if_pos hok
      have eL : Hid (livingL L = living L) := if_pos kp.heap
      subst hk9 hx9 hy9
      clear kp E7 hyy
      have my1 : Hid True := trivial
      have my2 : Hid True := trivial
      have my3 : Hid True := trivial
      go_upto_region 19 with (first | (clear my1; go_at_call 10; refine (specHandOk_any H ⟨k9, x9, y9, s, l, e, o, t⟩ _ w1.heap.size _ (by omega) oh.rd).mono ?_; rintro er wa ⟨he, hBa⟩; rw [hyb.out] at he; subst he; have hza := hBa.size; replace h4 := h4.below hBa (by omega); replace h6 := h6.below hBa (by omega); replace oh := oh.below hBa (by omega); replace ox := ox.below hBa (by omega); replace hB := hB.trans (hBa.mono (by omega)); replace hzw := hB.size; obtain ⟨cd0, cd1, cd2, cd3, cd4, cd5, cd6, cd7⟩ := h6.cells) | (clear my2; go_at_call 13; refine (implHandOk_any L ⟨k9, x9, y9, s9, l9, e9, o9, t9⟩ _ w4.heap.size _ (by omega) ox.rd).mono ?_; rintro er wb ⟨he, hBb⟩; rw [HBX.out] at he; subst he; have hzb' := hBb.size; replace h4 := h4.below hBb (by omega); replace h6 := h6.below hBb (by omega); replace oh := oh.below hBb (by omega); replace ox := ox.below hBb (by omega); replace hB := hB.trans (hBb.mono (by omega)); replace hzw := hB.size; clear cc0 cc1 cc2 cc3 cc4 cc5 cc6 cc7 cd0 cd1 cd2 cd3 cd4 cd5 cd6 cd7; obtain ⟨cc0, cc1, cc2, cc3, cc4, cc5, cc6, cc7⟩ := h4.cells; obtain ⟨cd0, cd1, cd2, cd3, cd4, cd5, cd6, cd7⟩ := h6.cells) | (clear my3; go_at_call 29; refine (specLiving_any H _ w1.heap.size _ (by omega) oh.rd).mono ?_; rintro er wc ⟨vl1, rfl, ol1, hBc⟩; rw [eH.out] at ol1; have hzc := hBc.size; replace h4 := h4.below hBc (by omega); replace h6 := h6.below hBc (by omega); replace ox := ox.below hBc (by omega); replace hB := hB.trans (hBc.mono (by omega)); replace hzw := hB.size; have r1 := ol1.rd) | (go_at_call 29; refine (specLiving_any L _ w4.heap.size _ (by omega) ox.rd).mono ?_; rintro er wd ⟨vl2, rfl, ol2, hBd⟩; rw [eL.out] at ol2; have hzd := hBd.size; replace h4 := h4.below hBd (by omega); replace h6 := h6.below hBd (by omega); replace r1 := r1.below hBd (by omega); replace hB := hB.trans (hBd.mono (by omega)); replace hzw := hB.size; have r2 := ol2.rd; clear cc0 cc1 cc2 cc3 cc4 cc5 cc6 cc7 cd0 cd1 cd2 cd3 cd4 cd5 cd6 cd7; obtain ⟨cc0, cc1, cc2, cc3, cc4, cc5, cc6, cc7⟩ := h4.cells; obtain ⟨cd0, cd1, cd2, cd3, cd4, cd5, cd6, cd7⟩ := h6.cells) | (fail))
      have hkind := (okB_iff.1 (by rw [← handB_pos hok]; exact hyb.out) : OkH H _).kind
      have h9o : (s9 = 5 ↔ t9 ≠ 0) := kk.out.hand.told.1
      have lv := kk.out.lives
      simp only [] at hkind lv
      clear hok
      by_cases c1 : s = 5
      · have g1 : (s != 5) = false := by simp [c1]
        have el : Hid (living L = living H) := (by rcases lv with q | q; (· exact absurd c1 q.2.1); (· exact q.2))
        rw [el.out] at r2
        clear lv
        go_wp2_with (first | (go_at_call 31; refine (likeInts_any (living H) _ _ wc.heap.size wd.heap.size _ (by omega) (by omega) r1 r2).mono ?_; rintro er we ⟨rfl, hBe⟩) | (fail))
        go_ret
        exact ⟨rfl, hB.trans (hBe.mono (by omega))⟩
      have g1 : (s != 5) = true := by simp [c1]
      by_cases c2 : s9 = 5
      case neg =>
        have g2 : (s9 == 5) = false := by simp [c2]
        have el : Hid (living L = living H) := (by rcases lv with q | q; (· exact absurd (h9o.2 (by have := q.1; omega)) c2); (· exact q.2))
        rw [el.out] at r2
        clear lv
        go_wp2_with (first | (go_at_call 31; refine (likeInts_any (living H) _ _ wc.heap.size wd.heap.size _ (by omega) (by omega) r1 r2).mono ?_; rintro er we ⟨rfl, hBe⟩) | (fail))
        go_ret
        exact ⟨rfl, hB.trans (hBe.mono (by omega))⟩
      have g2 : (s9 == 5) = true := by simp [c2]
      by_cases c3 : t9 = 1
      case neg =>
        have g3 : (t9 == 1) = false := by simp [c3]
        have el : Hid (living L = living H) := (by rcases lv with q | q; (· exact absurd q.1 c3); (· exact q.2))
        rw [el.out] at r2
        clear lv
        go_wp2_with (first | (go_at_call 31; refine (likeInts_any (living H) _ _ wc.heap.size wd.heap.size _ (by omega) (by omega) r1 r2).mono ?_; rintro er we ⟨rfl, hBe⟩) | (fail))
        go_ret
        exact ⟨rfl, hB.trans (hBe.mono (by omega))⟩
      have g3 : (t9 == 1) = true := by simp [c3]
      by_cases c4 : k9 = 3
      · have g4 : (k9 != 3) = false := by simp [c4]
        have el : Hid (living L = living H) := (by rcases lv with q | q; (· exact absurd c4 q.2.2.1); (· exact q.2))
        rw [el.out] at r2
        clear lv
        go_wp2_with (first | (go_at_call 31; refine (likeInts_any (living H) _ _ wc.heap.size wd.heap.size _ (by omega) (by omega) r1 r2).mono ?_; rintro er we ⟨rfl, hBe⟩) | (fail))
        go_ret
        exact ⟨rfl, hB.trans (hBe.mono (by omega))⟩
      have g4 : (k9 != 3) = true := by simp [c4]
      have lv2 : (k9 = 1 ∧ x9 ∈ living L) ∨ (k9 = 2 ∧ x9 ∉ living L) := by
        rcases lv with q | q
        · exact q.2.2.2
        · rcases q.1 c3 with z | z
          · exact absurd z c1
          · exact absurd z c4
      clear lv
      rcases lv2 with ⟨d1, d2⟩ | ⟨d1, d2⟩
      · have g5 : (k9 == 1) = true := by simp [d1]
        have hd : Hid (decide (x9 ∈ living L) = true) := decide_eq_true d2
        clear d1 c1 c2 c3 c4
        go_wp2_with (first | (go_at_call 30; refine (hasInt_any (living L) x9 _ wd.heap.size _ r2).mono ?_; rintro er wq ⟨rfl, hq⟩; subst wq; rw [hd.out]) | (fail))
        go_ret
        exact ⟨rfl, hB⟩
      · have g5 : (k9 == 1) = false := by simp [d1]
        have g6 : (k9 == 2) = true := by simp [d1]
        have hd : Hid (decide (x9 ∈ living L) = false) := decide_eq_false d2
        clear d1 c1 c2 c3 c4
        go_wp2_with (first | (go_at_call 30; refine (hasInt_any (living L) x9 _ wd.heap.size _ r2).mono ?_; rintro er wq ⟨rfl, hq⟩; subst wq; rw [hd.out]) | (fail))
        go_ret
        exact ⟨rfl, hB⟩
end Go.Proofs.Ytodpbghkjnlfdaa.lawHd
