/- Texts laid together: Sm3 Sn8. -/
import Derived.Test.YtjkkjpgebcnhgaaGreatDoorMg13
import Derived.Test.YtjkkjpgebcnhgaaGreatDoorMg12
import Derived.Lib.SmallJoins
import Derived.Deep.Slices
import Derived.Deep.RegionHeld3
import Derived.BigQuiet
import Derived.Deep.DeepCutAuto
/- The model's Stamped. -/
namespace Go.Proofs.YtjkkjpgebcnhgaaGreatDoor.rg
open Go.ChangeShapes Go.WideShapes Go.ChangeAt Go.RowKit
open Go.Deep Go.Joins
open Go.Proofs.YtjkkjpgebcnhgaaGreatDoor.ce Go.Proofs.YtjkkjpgebcnhgaaGreatDoor.ro Go.Proofs.YtjkkjpgebcnhgaaGreatDoor.draw
set_option linter.unusedVariables false

/-- what Stamped tells -/
def PostS (I : List It) (X : Int) (i : It) (w : World) (e : Ending) (w' : World) : Prop := ∃ v', e = .returned (.tuple #[.agg #[v', .int .i64 (stR ⟨I, X⟩ i).X], .bool (stB ⟨I, X⟩ i)]) ∧ Own encIt w' w.heap.size w'.heap.size v' (stR ⟨I, X⟩ i).I ∧ Below w.heap.size w w'
set_option maxRecDepth 100000 in
set_option maxHeartbeats 4000000 in
theorem specStamped_any (I : List It) (X : Int) (N B : ByteArray) (F C U : Int) (v : Value) (w : World) (r : Rd encIt w v I) (hs : SmK I) (hl : I.length ≤ 1048576) (hN : N.size ≤ 1048576) (hBs : B.size ≤ 1048576) :
    Calls Tryz.prog 29 #[.agg #[v, .int .i64 X], .agg #[.string N, .int .i64 F, .string B, .int .i64 C, .int .i64 U]] w fun e w' => PostS I X ⟨N, F, B, C, U⟩ w e w' := by
  obtain ⟨a, cap, rfl⟩ := r.form
  have R : Hid (Rd encIt w (.slice a I.length cap) I) := r
  have HS : Hid (SmK I) := hs
  clear r hs
  have k1 : Hid True := trivial
  have k2 : Hid True := trivial
  have k3 : Hid True := trivial
  have k4 : Hid True := trivial
  have k5 : Hid True := trivial
  have k6 : Hid True := trivial
  have k7 : Hid True := trivial
  have k8 : Hid True := trivial
  have k9 : Hid True := trivial
  cases hst : storeB ⟨I, X⟩ with
  | false =>
    have HY : Hid (storeB ⟨I, X⟩ = false) := hst
    have e1 : stR ⟨I, X⟩ ⟨N, F, B, C, U⟩ = Bk.zero := by unfold stR; rw [hst]; rfl
    have e2 : stB ⟨I, X⟩ ⟨N, F, B, C, U⟩ = false := by unfold stB; rw [hst]; rfl
    unfold PostS
    rw [e1, e2]
    unfold Bk.zero
    clear e1 e2 hst
    go_enter Tryz.func29, Tryz.ntmps29
    go_wp2_with (first | (clear k1; refine wpList_box_v rfl 31 _ rfl [.slice a I.length cap, .int .i64 X] rfl ?_; intro b1 w1 hb1 hw1 hB1 V1; have hz1 := hB1.size) | (clear k2; refine wpList_box_v rfl 56 _ rfl [.string N, .int .i64 F, .string B, .int .i64 C, .int .i64 U] rfl ?_; intro b3 w2 hb3 hw3 hB2 V3; have hz2 := hB2.size; have V1b := vblk_grow V1 hB2) | (clear k3; refine wpList_alloc_v rfl 31 rfl _ zeroBk ?_; intro b2 w3 hb2 hw2 hB3 V2; have hz3 := hB3.size; have V1c := vblk_grow V1b hB3; have V3c := vblk_grow V3 hB3; have hB13 : Below w.heap.size w w3 := (hB1.trans (hB2.mono hz1)).trans (hB3.mono (by omega))) | (clear k4; refine wpList_load_r rfl 31 _ rfl b1 0 [.slice a I.length cap, .int .i64 X] rfl _ Tryz.underlying31 rfl sizeBk V1c.range ?_) | (go_at_call 20; refine (specStoreOk_any I X _ false HY _ (R.out.grow hB13) HS.out).mono ?_; rintro e w4 ⟨rfl, hB4⟩; have V1d := vblk_grow V1c hB4; have V2d := vblk_grow V2 hB4; have V3d := vblk_grow V3c hB4; have hz4 := hB4.size; have hB14 : Below w.heap.size w w4 := hB13.trans (hB4.mono hB13.size)) | (refine wpList_store_v rfl 31 _ _ rfl b2 [.slice none 0 0, .int .i64 0] rfl rfl sizeBk V2d rfl (oneBk _ _ _ _) ?_; intro w5 hO5 V5) | (fail))
    exact row_ct rfl rfl rfl V5 Tryz.underlying31 sizeBk rfl ⟨_, rfl, own_zero _ _ _ _ _, hB14.trans (hO5.2.2 _ (by omega))⟩
  | true =>
    have HY : Hid (storeB ⟨I, X⟩ = true) := hst
    have OK := storeB_iff.1 hst
    have hl20 : I.length ≤ 20 := OK.bk.2.2
    have hX0 : 1 ≤ X := OK.x0
    have hX1 : X ≤ 1000000 := OK.x1
    obtain ⟨y, hy⟩ := hid_ex (stampOk ⟨I, X⟩ ⟨N, F, B, C, U⟩)
    have e1 : (stR ⟨I, X⟩ ⟨N, F, B, C, U⟩).X = if y = true then nextX X else X := by unfold stR; rw [hst, hy.out]; cases y <;> rfl
    have e2 : stB ⟨I, X⟩ ⟨N, F, B, C, U⟩ = y := by unfold stB; rw [hst, hy.out]; rfl
    have e3 : (stR ⟨I, X⟩ ⟨N, F, B, C, U⟩).I = if y = true then putL I ⟨N, F, B, X, U⟩ else I := by unfold stR; rw [hst, hy.out]; cases y <;> rfl
    obtain ⟨Xn, hXn⟩ := hid_ex (if y = true then nextX X else X)
    obtain ⟨L, hL⟩ := hid_ex (if y = true then putL I ⟨N, F, B, X, U⟩ else I)
    unfold PostS
    rw [e1, e2, e3, hXn.out, hL.out]
    clear e1 e2 e3 hst OK
    go_enter Tryz.func29, Tryz.ntmps29
    go_wp2_with (first | (clear k1; refine wpList_box_v rfl 31 _ rfl [.slice a I.length cap, .int .i64 X] rfl ?_; intro b1 w1 hb1 hw1 hB1 V1; have hz1 := hB1.size) | (clear k2; refine wpList_box_v rfl 56 _ rfl [.string N, .int .i64 F, .string B, .int .i64 C, .int .i64 U] rfl ?_; intro b3 w2 hb3 hw3 hB2 V3; have hz2 := hB2.size; have V1b := vblk_grow V1 hB2) | (clear k3; refine wpList_alloc_v rfl 31 rfl _ zeroBk ?_; intro b2 w3 hb2 hw2 hB3 V2; have hz3 := hB3.size; have V1c := vblk_grow V1b hB3; have V3c := vblk_grow V3 hB3; have hB13 : Below w.heap.size w w3 := (hB1.trans (hB2.mono hz1)).trans (hB3.mono (by omega))) | (clear k4; refine wpList_load_r rfl 31 _ rfl b1 0 [.slice a I.length cap, .int .i64 X] rfl _ Tryz.underlying31 rfl sizeBk V1c.range ?_) | (go_at_call 20; refine (specStoreOk_any I X _ true HY _ (R.out.grow hB13) HS.out).mono ?_; rintro e w4 ⟨rfl, hB4⟩; have V1d := vblk_grow V1c hB4; have V2d := vblk_grow V2 hB4; have V3d := vblk_grow V3c hB4; have hz4 := hB4.size; have hB14 : Below w.heap.size w w4 := hB13.trans (hB4.mono hB13.size)) | (clear k5; refine wpList_load_r rfl 31 _ rfl b1 0 [.slice a I.length cap, .int .i64 X] rfl _ Tryz.underlying31 rfl sizeBk V1d.range ?_) | (go_at_call 33; refine (l13Copy_any I X _ _ (R.out.grow hB14) hl).mono ?_; rintro e w5 ⟨v5, rfl, o5, hB5⟩; have V2e := vblk_grow V2d hB5; have V3e := vblk_grow V3d hB5; have hz5 := hB5.size; obtain ⟨a5, n5, c5, rfl⟩ := o5.slice) | (clear k6; refine wpList_alloc_v rfl 31 rfl _ zeroBk ?_; intro b6 w6 hb6 hw6 hB6 V6; have hz6 := hB6.size; have o6 := o5.grow hB6; have V2f := vblk_grow V2e hB6; have V3f := vblk_grow V3e hB6) | (clear k7; refine wpList_store_v rfl 31 _ _ rfl b6 [.slice a5 n5 c5, .int .i64 X] rfl rfl sizeBk V6 rfl (oneBk _ _ _ _) ?_; intro w7 hO7 V7; have o7 := o6.only hO7 V6 (by decide); have V2g := vblk_only V2f hO7 (by have := V2e.lt; omega); have V3g := vblk_only V3f hO7 (by have := V3e.lt; omega); have hs7 : w6.heap.size ≤ w7.heap.size := Nat.le_of_eq hO7.1.symm) | (clear k8; refine wpList_load_r rfl 56 _ rfl b3 0 [.string N, .int .i64 F, .string B, .int .i64 C, .int .i64 U] rfl _ Tryz.underlying56 rfl sizeIt V3g.range ?_) | (go_at_call 63; refine (l13Stamp_any I X N B F C U b6 w4.heap.size _ _ _ y hy _ V7 (by omega) (o7.wide (Nat.le_refl _) (by omega)) (by omega) hX0 hX1 hN hBs).mono ?_; rintro e w8 ⟨rfl, A8, n8, c8, V8, o8, hB8⟩; rw [hXn.out] at V8; rw [hL.out] at o8; have V2h := V2g.of (hB8.block b2 (by have := V2d.lt; omega))) | (clear k9; refine wpList_load_r rfl 31 _ rfl b6 0 [.slice A8 n8 c8, .int .i64 Xn] rfl _ Tryz.underlying31 rfl sizeBk V8.range ?_) | (refine wpList_store_v rfl 31 _ _ rfl b2 [.slice A8 n8 c8, .int .i64 Xn] rfl rfl sizeBk V2h rfl (oneBk _ _ _ _) ?_; intro w9 hO9 V9) | (fail))
    exact row_ct rfl rfl rfl V9 Tryz.underlying31 sizeBk rfl ⟨_, rfl, ((o8.only hO9 V2h (by decide)).wide (by omega) (Nat.le_refl _)).top, ((((hB14.trans (hB5.mono hB14.size)).trans (hB6.mono (by omega))).trans (hO7.2.2 _ (by omega))).trans (hB8.mono (by omega))).trans (hO9.2.2 _ (by omega))⟩
end Go.Proofs.YtjkkjpgebcnhgaaGreatDoor.rg
/- withItem; the program's Stamped. -/
namespace Go.Proofs.YtjkkjpgebcnhgaaGreatDoor.rg
open Go.ChangeShapes Go.WideShapes Go.ChangeAt Go.RowKit
open Go.Deep Go.Joins
open Go.Proofs.YtjkkjpgebcnhgaaGreatDoor.ce Go.Proofs.YtjkkjpgebcnhgaaGreatDoor.ro
set_option linter.unusedVariables false

set_option maxRecDepth 100000 in
set_option maxHeartbeats 2000000 in
theorem withItem_any (I : List It) (N B : ByteArray) (F C U : Int) (v : Value) (w : World) (r : Rd encIt w v I) (hS : Srt I) (hl : I.length ≤ 1000000) :
    Calls Tryz.prog 61 #[v, .agg #[.string N, .int .i64 F, .string B, .int .i64 C, .int .i64 U]] w fun e w' => ∃ v', e = .returned v' ∧ Own encIt w' w.heap.size w'.heap.size v' (putL I ⟨N, F, B, C, U⟩) ∧ Below w.heap.size w w' := by
  obtain ⟨a, cap, rfl⟩ := r.form
  have R : Hid (Rd encIt w (.slice a I.length cap) I) := r
  have HS : Hid (Srt I) := hS
  have HD : Hid (Srt (dropL I N)) := hS.filter _
  have hdl : (dropL I N).length ≤ 1048576 := by have := List.length_filter_le (fun x : It => decide (x.N ≠ N)) I; unfold dropL; omega
  clear r hS
  have m1 : Hid True := trivial
  have m2 : Hid True := trivial
  go_enter Tryz.func61, Tryz.ntmps61
  go_wp2_with (first
    | (clear m1; refine wpList_box_v rfl 56 _ rfl [.string N, .int .i64 F, .string B, .int .i64 C, .int .i64 U] rfl ?_; intro b3 w1 hb3 hw3 hB1 V1; have hz1 := hB1.size; obtain ⟨c0, c1, c2, c3, c4⟩ := cells5 V1)
    | (go_at_call 102; refine (without_any I N _ _ (R.out.grow hB1) HS.out (by omega)).mono ?_; rintro e w2 ⟨v2, rfl, o2, hB2⟩; have V2 := vblk_grow V1 hB2; have hz2 := hB2.size; clear c0 c1 c2 c3 c4; obtain ⟨c0, c1, c2, c3, c4⟩ := cells5 V2; obtain ⟨A2, n2, k2, rfl⟩ := o2.slice)
    | (go_at_call 103; refine (bsf_any (dropL I N) N _ _ o2.rd HD.out hdl).mono ?_; rintro e w3 ⟨k, y, rfl, hk, hk1, hk2, hB3⟩; have V3 := vblk_grow V2 hB3; have hz3 := hB3.size; have o3 := (o2.grow hB3); have HK : Hid ((dropL I N).take k ++ (⟨N, F, B, C, U⟩ : It) :: (dropL I N).drop k = putL I ⟨N, F, B, C, U⟩) := with_is HS.out ⟨N, F, B, C, U⟩ hk hk1 hk2; clear hk1 hk2)
    | (clear m2; refine wpList_load_r rfl 56 _ rfl b3 0 [.string N, .int .i64 F, .string B, .int .i64 C, .int .i64 U] rfl _ Tryz.underlying56 rfl sizeIt V3.range ?_)
    | (go_at_call 106; refine (insert_any (dropL I N) ⟨N, F, B, C, U⟩ k w3.heap.size w.heap.size _ _ ((o3.top.grow ((Below.refl _ _).alloc (Nat.le_refl _) _)).wide hz1 (Nat.le_refl _)) (heap_alloc_new _ _) (by omega) hk hdl).mono ?_; rintro e w4 ⟨v4, rfl, o4, hT4⟩; rw [HK.out] at o4)
    | (fail))
  go_ret
  have hB34 : Below w3.heap.size w3 (w3.alloc (.cells #[.string N, .int .i64 F, .string B, .int .i64 C, .int .i64 U] 56)) := (Below.refl _ _).alloc (Nat.le_refl _) _
  exact ⟨_, rfl, o4, (((hB1.trans (hB2.mono hz1)).trans (hB3.mono (by omega))).trans (hB34.mono (by omega))).trans hT4.low⟩
end Go.Proofs.YtjkkjpgebcnhgaaGreatDoor.rg
