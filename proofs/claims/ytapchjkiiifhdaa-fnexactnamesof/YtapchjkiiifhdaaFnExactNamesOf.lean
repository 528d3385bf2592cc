/- For every choice the program's NamesOf answers as the model's NamesOf, in memory of its own, another call's answer too, and writes into nothing that it was given (the law itself lets off what has over 1048576 names and numbers): the law's call returns true and its arguments read as before; no condition. -/
import Derived.Test.YtapchjkiiifhdaaMg13
import Derived.Deep.DeepCutAuto
import Derived.Deep.RegionHeld3
namespace Go.Proofs.Ytapchjkiiifhdaa.fnExactNamesOf
open Go.ChangeShapes Go.WideShapes Go.ChangeAt Go.RowKit
open Go.Proofs.Ytapchjkiiifhdaa.ce Go.Proofs.Ytapchjkiiifhdaa.ro Go.Proofs.Ytapchjkiiifhdaa.rg
set_option linter.unusedVariables false

theorem own : ownKnob Try.prog.godebug = none := by kernel_rfl
theorem laidOut : laidOutB Try.prog = true := by kernel_rfl

/-! ### the walk -/
set_option maxRecDepth 100000 in
set_option maxHeartbeats 4000000 in
theorem walk (vN vU vQ vS : Value) (c : Ch) (w : World) (hv : RdC w vN vU vQ vS c) :
    Calls Try.prog 7 #[.agg #[.int .i64 c.K, vN, vU, .int .i64 c.R.A, vQ, vS, .int .i64 c.D]] w fun e w' => e = .returned (.bool true) ∧ Below w.heap.size w w' := by
  obtain ⟨⟨aN0, nN0, kN0, rfl⟩, ⟨aU0, nU0, kU0, rfl⟩, ⟨aQ0, nQ0, kQ0, rfl⟩, ⟨aS0, nS0, kS0, rfl⟩⟩ := RdC.forms hv
  have R : Hid (RdC w (.slice aN0 nN0 kN0) (.slice aU0 nU0 kU0) (.slice aQ0 nQ0 kQ0) (.slice aS0 nS0 kS0) c) := hv
  clear hv
  obtain ⟨X, hX⟩ := hid_ex (nmC c)
  have hXl : X.length ≤ 1000000 := nmC_len hX.out
  obtain ⟨mm, hmm⟩ : ∃ m : Nat, Hid (m = 1 + X.length) := ⟨_, rfl⟩
  have hm0 : ¬ ((mm : Int) < 0) := by omega
  have hme : ((mm : Int) != (mm : Int)) = false := by simp
  go_enter Try.func7, Try.ntmps7
  have mk1 : Hid True := trivial
  have mk2 : Hid True := trivial
  go_wp2_with (first | (clear mk1; refine wpList_box_v rfl 30 _ rfl [.int .i64 c.K, .slice aN0 nN0 kN0, .slice aU0 nU0 kU0, .int .i64 c.R.A, .slice aQ0 nQ0 kQ0, .slice aS0 nS0 kS0, .int .i64 c.D] rfl ?_; intro b1 w1 hb1 hwb1 hB1 c1; have hz1 : w.heap.size ≤ w1.heap.size := hB1.size; have hB := hB1; have hzw := hB.size; obtain ⟨c10, c11, c12, c13, c14, c15, c16⟩ := cells7c c1) | (clear mk2; go_at_call 14; refine (szChoice_any c _ _ _ _ _ (R.out.grow hB)).mono ?_; rintro er w2 ⟨q, rfl, hB2, hq⟩; have hz2 : w1.heap.size ≤ w2.heap.size := hB2.size; replace c1 := vblk_grow c1 hB2; replace hB := hB.trans (hB2.mono (by omega)); replace hzw := hB.size; clear c10 c11 c12 c13 c14 c15 c16; obtain ⟨c10, c11, c12, c13, c14, c15, c16⟩ := cells7c c1; by_cases hneg : q < 0) | (fail))
  · go_ret
    exact ⟨rfl, hB⟩
  have hm : Mod c := hq (by omega)
  clear hq
  have hneg2 : decide (q < 0) = false := decide_eq_false (by omega)
  have mk3 : Hid True := trivial
  have mk4 : Hid True := trivial
  have mk5 : Hid True := trivial
  have mk6 : Hid True := trivial
  have mk7 : Hid True := trivial
  have mk8 : Hid True := trivial
  have mk9 : Hid True := trivial
  go_upto_region 10 with (first | (clear mk3; go_at_call 16; refine (toChoice_any c hm _ _ _ _ _ (R.out.grow hB)).mono ?_; rintro er w3 ⟨vN2, vU2, vQ2, vS2, rfl, o2, hB3⟩; have hz3 : w2.heap.size ≤ w3.heap.size := hB3.size; replace c1 := vblk_grow c1 hB3; replace hB := hB.trans (hB3.mono (by omega)); replace hzw := hB.size; clear c10 c11 c12 c13 c14 c15 c16; obtain ⟨c10, c11, c12, c13, c14, c15, c16⟩ := cells7c c1; obtain ⟨⟨aN2, nN2, kN2, rfl⟩, ⟨aU2, nU2, kU2, rfl⟩, ⟨aQ2, nQ2, kQ2, rfl⟩, ⟨aS2, nS2, kS2, rfl⟩⟩ := o2.forms) | (clear mk4; go_at_call 27; refine (specNamesOf_any c _ _ _ _ _ (o2.rd R.out.r.s R.out.qs)).mono ?_; rintro er w4 ⟨v4, rfl, o4, hB4⟩; have hz4 : w3.heap.size ≤ w4.heap.size := hB4.size; replace o2 := o2.grow hB4; replace c1 := vblk_grow c1 hB4; replace hB := hB.trans (hB4.mono (by omega)); replace hzw := hB.size; clear c10 c11 c12 c13 c14 c15 c16; obtain ⟨c10, c11, c12, c13, c14, c15, c16⟩ := cells7c c1; rw [hX.out] at o4; obtain ⟨a4, n4, k4, rfl⟩ := o4.slice) | (clear mk5; go_at_call 16; refine (toChoice_any c hm _ _ _ _ _ (R.out.grow hB)).mono ?_; rintro er w5 ⟨vN3, vU3, vQ3, vS3, rfl, o3, hB5⟩; have hz5 : w4.heap.size ≤ w5.heap.size := hB5.size; replace o2 := o2.grow hB5; replace o4 := o4.grow hB5; replace c1 := vblk_grow c1 hB5; replace hB := hB.trans (hB5.mono (by omega)); replace hzw := hB.size; clear c10 c11 c12 c13 c14 c15 c16; obtain ⟨c10, c11, c12, c13, c14, c15, c16⟩ := cells7c c1; obtain ⟨⟨aN3, nN3, kN3, rfl⟩, ⟨aU3, nU3, kU3, rfl⟩, ⟨aQ3, nQ3, kQ3, rfl⟩, ⟨aS3, nS3, kS3, rfl⟩⟩ := o3.forms) | (clear mk6; refine wpList_alloc_v rfl 36 rfl _ zeroCh ?_; intro b5 w6 hb5 hwb5 hB6 c5; have hz6 : w5.heap.size ≤ w6.heap.size := hB6.size; replace o2 := o2.grow hB6; replace o4 := o4.grow hB6; replace o3 := o3.grow hB6; replace c1 := vblk_grow c1 hB6; replace hB := hB.trans (hB6.mono (by omega)); replace hzw := hB.size; clear c10 c11 c12 c13 c14 c15 c16; obtain ⟨c10, c11, c12, c13, c14, c15, c16⟩ := cells7c c1) | (clear mk7; refine wpList_store_v rfl 36 _ _ rfl b5 [.int .i64 c.K, .slice aN3 nN3 kN3, .slice aU3 nU3 kU3, .int .i64 c.R.A, .slice aQ3 nQ3 kQ3, .slice aS3 nS3 kS3, .int .i64 c.D] rfl rfl sizeCh c5 rfl (by simp [Value.oneCell']) ?_; intro w7 hO7 c5x; have hz7 : w6.heap.size ≤ w7.heap.size := (Nat.le_of_eq hO7.1.symm); have hy7 : w7.heap.size ≤ w6.heap.size := (Nat.le_of_eq hO7.1); replace o2 := o2.below (hO7.2.2 b5 (Nat.le_refl _)) (by omega); replace o4 := o4.below (hO7.2.2 b5 (Nat.le_refl _)) (by omega); replace o3 := o3.below (hO7.2.2 b5 (Nat.le_refl _)) (by omega); replace c1 := vblk_only c1 hO7 (by omega); replace hB := hB.trans (hO7.2.2 _ (by omega)); replace hzw := hB.size; clear c10 c11 c12 c13 c14 c15 c16; obtain ⟨c10, c11, c12, c13, c14, c15, c16⟩ := cells7c c1; clear c5; have c5 := c5x; clear c5x; obtain ⟨c50, c51, c52, c53, c54, c55, c56⟩ := cells7c c5) | (clear mk8; go_at_call 28; refine (implNamesOf_any c _ _ _ _ _ (o3.rd R.out.r.s R.out.qs)).mono ?_; rintro er w8 ⟨v6, rfl, o6, hB8⟩; have hz8 : w7.heap.size ≤ w8.heap.size := hB8.size; replace o2 := o2.grow hB8; replace o4 := o4.grow hB8; replace o3 := o3.grow hB8; replace c1 := vblk_grow c1 hB8; replace c5 := vblk_grow c5 hB8; replace hB := hB.trans (hB8.mono (by omega)); replace hzw := hB.size; clear c10 c11 c12 c13 c14 c15 c16; obtain ⟨c10, c11, c12, c13, c14, c15, c16⟩ := cells7c c1; clear c50 c51 c52 c53 c54 c55 c56; obtain ⟨c50, c51, c52, c53, c54, c55, c56⟩ := cells7c c5; rw [hX.out] at o6; obtain ⟨a6, n6, k6, rfl⟩ := o6.slice) | (clear mk9; go_at_call 29; refine (eqTexts_any X _ _ _ o6.rd o4.rd).mono ?_; rintro er w9 ⟨rfl, hB9⟩; have hz9 : w8.heap.size ≤ w9.heap.size := hB9.size; replace o2 := o2.grow hB9; replace o4 := o4.grow hB9; replace o3 := o3.grow hB9; replace o6 := o6.grow hB9; replace c1 := vblk_grow c1 hB9; replace c5 := vblk_grow c5 hB9; replace hB := hB.trans (hB9.mono (by omega)); replace hzw := hB.size; clear c10 c11 c12 c13 c14 c15 c16; obtain ⟨c10, c11, c12, c13, c14, c15, c16⟩ := cells7c c1; clear c50 c51 c52 c53 c54 c55 c56; obtain ⟨c50, c51, c52, c53, c54, c55, c56⟩ := cells7c c5) | (fail))
  have hBd : Below w9.heap.size w9 w9.drew := (Below.refl _ _).drew
  have hzd : w9.drew.heap.size ≤ w9.heap.size := Nat.le_refl _
  have hzd2 : w9.heap.size ≤ w9.drew.heap.size := Nat.le_refl _
  replace o2 := o2.grow hBd
  replace o4 := o4.grow hBd
  replace o3 := o3.grow hBd
  replace o6 := o6.grow hBd
  replace c1 := vblk_grow c1 hBd
  clear c10 c11 c12 c13 c14 c15 c16
  obtain ⟨c10, c11, c12, c13, c14, c15, c16⟩ := cells7c c1
  replace c5 := vblk_grow c5 hBd
  clear c50 c51 c52 c53 c54 c55 c56
  obtain ⟨c50, c51, c52, c53, c54, c55, c56⟩ := cells7c c5
  replace hB := hB.trans (hBd.mono (by omega))
  replace hzw := hB.size
  have S1 : w9.drew.cell? ⟨b5, 0, none⟩ = some (.int .i64 c.K) ∧ w9.drew.cell? ⟨b5, 1, none⟩ = some (.slice aN3 nN3 kN3) ∧ w9.drew.cell? ⟨b5, 2, none⟩ = some (.slice aU3 nU3 kU3) ∧ w9.drew.cell? ⟨b5, 3, none⟩ = some (.int .i64 c.R.A) ∧ w9.drew.cell? ⟨b5, 4, none⟩ = some (.slice aQ3 nQ3 kQ3) ∧ w9.drew.cell? ⟨b5, 5, none⟩ = some (.slice aS3 nS3 kS3) ∧ w9.drew.cell? ⟨b5, 6, none⟩ = some (.int .i64 c.D) ∧ w9.drew.cell? ⟨b1, 0, none⟩ = some (.int .i64 c.K) ∧ w9.drew.cell? ⟨b1, 1, none⟩ = some (.slice aN0 nN0 kN0) ∧ w9.drew.cell? ⟨b1, 2, none⟩ = some (.slice aU0 nU0 kU0) ∧ w9.drew.cell? ⟨b1, 3, none⟩ = some (.int .i64 c.R.A) ∧ w9.drew.cell? ⟨b1, 4, none⟩ = some (.slice aQ0 nQ0 kQ0) ∧ w9.drew.cell? ⟨b1, 5, none⟩ = some (.slice aS0 nS0 kS0) ∧ w9.drew.cell? ⟨b1, 6, none⟩ = some (.int .i64 c.D) := ⟨c50, c51, c52, c53, c54, c55, c56, c10, c11, c12, c13, c14, c15, c16⟩
  have mk10 : Hid True := trivial
  have mk11 : Hid True := trivial
  go_region_held3 (fun w' => w'.cell? ⟨b5, 0, none⟩ = some (.int .i64 c.K) ∧ w'.cell? ⟨b5, 1, none⟩ = some (.slice aN3 nN3 kN3) ∧ w'.cell? ⟨b5, 2, none⟩ = some (.slice aU3 nU3 kU3) ∧ w'.cell? ⟨b5, 3, none⟩ = some (.int .i64 c.R.A) ∧ w'.cell? ⟨b5, 4, none⟩ = some (.slice aQ3 nQ3 kQ3) ∧ w'.cell? ⟨b5, 5, none⟩ = some (.slice aS3 nS3 kS3) ∧ w'.cell? ⟨b5, 6, none⟩ = some (.int .i64 c.D) ∧ w'.cell? ⟨b1, 0, none⟩ = some (.int .i64 c.K) ∧ w'.cell? ⟨b1, 1, none⟩ = some (.slice aN0 nN0 kN0) ∧ w'.cell? ⟨b1, 2, none⟩ = some (.slice aU0 nU0 kU0) ∧ w'.cell? ⟨b1, 3, none⟩ = some (.int .i64 c.R.A) ∧ w'.cell? ⟨b1, 4, none⟩ = some (.slice aQ0 nQ0 kQ0) ∧ w'.cell? ⟨b1, 5, none⟩ = some (.slice aS0 nS0 kS0) ∧ w'.cell? ⟨b1, 6, none⟩ = some (.int .i64 c.D)) (first | with_reducible assumption | with_reducible exact S1 | (fail)) (first | (clear mk10; go_at_call 16; refine (toChoice_any c hm _ _ _ _ _ (R.out.grow hB)).mono ?_; rintro er w10 ⟨vN7, vU7, vQ7, vS7, rfl, o7, hB10⟩; have hz10 : w9.drew.heap.size ≤ w10.heap.size := hB10.size; replace o2 := o2.grow hB10; replace o4 := o4.grow hB10; replace o3 := o3.grow hB10; replace o6 := o6.grow hB10; replace c1 := vblk_grow c1 hB10; replace c5 := vblk_grow c5 hB10; replace hB := hB.trans (hB10.mono (by omega)); replace hzw := hB.size; clear c10 c11 c12 c13 c14 c15 c16; obtain ⟨c10, c11, c12, c13, c14, c15, c16⟩ := cells7c c1; clear c50 c51 c52 c53 c54 c55 c56; obtain ⟨c50, c51, c52, c53, c54, c55, c56⟩ := cells7c c5; obtain ⟨⟨aN7, nN7, kN7, rfl⟩, ⟨aU7, nU7, kU7, rfl⟩, ⟨aQ7, nQ7, kQ7, rfl⟩, ⟨aS7, nS7, kS7, rfl⟩⟩ := o7.forms; have S2 : w10.cell? ⟨b5, 0, none⟩ = some (.int .i64 c.K) ∧ w10.cell? ⟨b5, 1, none⟩ = some (.slice aN3 nN3 kN3) ∧ w10.cell? ⟨b5, 2, none⟩ = some (.slice aU3 nU3 kU3) ∧ w10.cell? ⟨b5, 3, none⟩ = some (.int .i64 c.R.A) ∧ w10.cell? ⟨b5, 4, none⟩ = some (.slice aQ3 nQ3 kQ3) ∧ w10.cell? ⟨b5, 5, none⟩ = some (.slice aS3 nS3 kS3) ∧ w10.cell? ⟨b5, 6, none⟩ = some (.int .i64 c.D) ∧ w10.cell? ⟨b1, 0, none⟩ = some (.int .i64 c.K) ∧ w10.cell? ⟨b1, 1, none⟩ = some (.slice aN0 nN0 kN0) ∧ w10.cell? ⟨b1, 2, none⟩ = some (.slice aU0 nU0 kU0) ∧ w10.cell? ⟨b1, 3, none⟩ = some (.int .i64 c.R.A) ∧ w10.cell? ⟨b1, 4, none⟩ = some (.slice aQ0 nQ0 kQ0) ∧ w10.cell? ⟨b1, 5, none⟩ = some (.slice aS0 nS0 kS0) ∧ w10.cell? ⟨b1, 6, none⟩ = some (.int .i64 c.D) := ⟨c50, c51, c52, c53, c54, c55, c56, c10, c11, c12, c13, c14, c15, c16⟩) | (clear mk11; go_at_call 18; refine (eqChoice_any c _ _ _ _ _ _ _ _ _ (o3.rd R.out.r.s R.out.qs) (o7.rd R.out.r.s R.out.qs)).mono ?_; rintro er w11 ⟨rfl, hB11⟩; have hz11 : w10.heap.size ≤ w11.heap.size := hB11.size; replace o2 := o2.grow hB11; replace o4 := o4.grow hB11; replace o3 := o3.grow hB11; replace o6 := o6.grow hB11; replace o7 := o7.grow hB11; replace c1 := vblk_grow c1 hB11; replace c5 := vblk_grow c5 hB11; replace hB := hB.trans (hB11.mono (by omega)); replace hzw := hB.size; clear c10 c11 c12 c13 c14 c15 c16; obtain ⟨c10, c11, c12, c13, c14, c15, c16⟩ := cells7c c1; clear c50 c51 c52 c53 c54 c55 c56; obtain ⟨c50, c51, c52, c53, c54, c55, c56⟩ := cells7c c5; have S3 : w11.cell? ⟨b5, 0, none⟩ = some (.int .i64 c.K) ∧ w11.cell? ⟨b5, 1, none⟩ = some (.slice aN3 nN3 kN3) ∧ w11.cell? ⟨b5, 2, none⟩ = some (.slice aU3 nU3 kU3) ∧ w11.cell? ⟨b5, 3, none⟩ = some (.int .i64 c.R.A) ∧ w11.cell? ⟨b5, 4, none⟩ = some (.slice aQ3 nQ3 kQ3) ∧ w11.cell? ⟨b5, 5, none⟩ = some (.slice aS3 nS3 kS3) ∧ w11.cell? ⟨b5, 6, none⟩ = some (.int .i64 c.D) ∧ w11.cell? ⟨b1, 0, none⟩ = some (.int .i64 c.K) ∧ w11.cell? ⟨b1, 1, none⟩ = some (.slice aN0 nN0 kN0) ∧ w11.cell? ⟨b1, 2, none⟩ = some (.slice aU0 nU0 kU0) ∧ w11.cell? ⟨b1, 3, none⟩ = some (.int .i64 c.R.A) ∧ w11.cell? ⟨b1, 4, none⟩ = some (.slice aQ0 nQ0 kQ0) ∧ w11.cell? ⟨b1, 5, none⟩ = some (.slice aS0 nS0 kS0) ∧ w11.cell? ⟨b1, 6, none⟩ = some (.int .i64 c.D) := ⟨c50, c51, c52, c53, c54, c55, c56, c10, c11, c12, c13, c14, c15, c16⟩) | (fail))
  clear S1 hBd
  clear o2 o7
  have mk12 : Hid True := trivial
  have mk13 : Hid True := trivial
  have mk14 : Hid True := trivial
  have mk15 : Hid True := trivial
  have mk16 : Hid True := trivial
  have mk17 : Hid True := trivial
  have mk18 : Hid True := trivial
  have mk19 : Hid True := trivial
  go_wp2_with (first | (clear mk12; go_at_call 21; refine (markChoice_any c hm _ _ _ _ _ _ _ o3).mono ?_; rintro er w12 ⟨mk, rfl, hmk, -, hM12⟩; clear o3; have hmk0 : decide (mk < 0) = false := decide_eq_false (by omega); have hmk1 : ¬ mk < 0 := (by omega); have hz12 : w11.heap.size ≤ w12.heap.size := hM12.size; replace o4 := o4.within hM12 (by omega); replace o6 := o6.within hM12 (by omega); replace c1 := c1.of (hM12.block _ c1.lt (by omega)); replace c5 := c5.of (hM12.block _ c5.lt (by omega)); replace hB := hB.trans (hM12.below (by omega) (by omega)); replace hzw := hB.size; clear c10 c11 c12 c13 c14 c15 c16; obtain ⟨c10, c11, c12, c13, c14, c15, c16⟩ := cells7c c1; clear c50 c51 c52 c53 c54 c55 c56; obtain ⟨c50, c51, c52, c53, c54, c55, c56⟩ := cells7c c5) | (clear mk13; go_at_call 29; refine (eqTexts_any X _ _ _ o6.rd o4.rd).mono ?_; rintro er w13 ⟨rfl, hB13⟩; have hz13 : w12.heap.size ≤ w13.heap.size := hB13.size; replace o4 := o4.grow hB13; replace o6 := o6.grow hB13; replace c1 := vblk_grow c1 hB13; replace c5 := vblk_grow c5 hB13; replace hB := hB.trans (hB13.mono (by omega)); replace hzw := hB.size; clear c10 c11 c12 c13 c14 c15 c16; obtain ⟨c10, c11, c12, c13, c14, c15, c16⟩ := cells7c c1; clear c50 c51 c52 c53 c54 c55 c56; obtain ⟨c50, c51, c52, c53, c54, c55, c56⟩ := cells7c c5) | (clear mk14; go_at_call 30; refine (markTexts_any X _ _ _ 1 (by omega) (by omega) mm hmm.out _ o6).mono ?_; rintro er w14 ⟨rfl, p6, hM14, -⟩; clear o6; have hz14 : w13.heap.size ≤ w14.heap.size := hM14.size; replace o4 := o4.within hM14 (by omega); replace c1 := c1.of (hM14.block _ c1.lt (by omega)); replace c5 := c5.of (hM14.block _ c5.lt (by omega)); replace hB := hB.trans (hM14.below (by omega) (by omega)); replace hzw := hB.size; clear c10 c11 c12 c13 c14 c15 c16; obtain ⟨c10, c11, c12, c13, c14, c15, c16⟩ := cells7c c1; clear c50 c51 c52 c53 c54 c55 c56; obtain ⟨c50, c51, c52, c53, c54, c55, c56⟩ := cells7c c5) | (clear mk15; go_at_call 31; refine (heldTexts_any X.length _ 1 (by omega) (by omega) mm hmm.out _ p6.rd).mono ?_; rintro er w15 ⟨rfl, hB15⟩; have hz15 : w14.heap.size ≤ w15.heap.size := hB15.size; replace o4 := o4.grow hB15; replace p6 := p6.grow hB15; replace c1 := vblk_grow c1 hB15; replace c5 := vblk_grow c5 hB15; replace hB := hB.trans (hB15.mono (by omega)); replace hzw := hB.size; clear c10 c11 c12 c13 c14 c15 c16; obtain ⟨c10, c11, c12, c13, c14, c15, c16⟩ := cells7c c1; clear c50 c51 c52 c53 c54 c55 c56; obtain ⟨c50, c51, c52, c53, c54, c55, c56⟩ := cells7c c5) | (clear mk16; go_at_call 16; refine (toChoice_any c hm _ _ _ _ _ (R.out.grow hB)).mono ?_; rintro er w16 ⟨vN8, vU8, vQ8, vS8, rfl, o8, hB16⟩; have hz16 : w15.heap.size ≤ w16.heap.size := hB16.size; replace o4 := o4.grow hB16; replace p6 := p6.grow hB16; replace c1 := vblk_grow c1 hB16; replace c5 := vblk_grow c5 hB16; replace hB := hB.trans (hB16.mono (by omega)); replace hzw := hB.size; clear c10 c11 c12 c13 c14 c15 c16; obtain ⟨c10, c11, c12, c13, c14, c15, c16⟩ := cells7c c1; clear c50 c51 c52 c53 c54 c55 c56; obtain ⟨c50, c51, c52, c53, c54, c55, c56⟩ := cells7c c5; obtain ⟨⟨aN8, nN8, kN8, rfl⟩, ⟨aU8, nU8, kU8, rfl⟩, ⟨aQ8, nQ8, kQ8, rfl⟩, ⟨aS8, nS8, kS8, rfl⟩⟩ := o8.forms) | (clear mk17; go_at_call 28; refine (implNamesOf_any c _ _ _ _ _ (o8.rd R.out.r.s R.out.qs)).mono ?_; rintro er w17 ⟨v10, rfl, o10, hB17⟩; have hz17 : w16.heap.size ≤ w17.heap.size := hB17.size; replace o4 := o4.grow hB17; replace p6 := p6.grow hB17; replace o8 := o8.grow hB17; replace c1 := vblk_grow c1 hB17; replace c5 := vblk_grow c5 hB17; replace hB := hB.trans (hB17.mono (by omega)); replace hzw := hB.size; clear c10 c11 c12 c13 c14 c15 c16; obtain ⟨c10, c11, c12, c13, c14, c15, c16⟩ := cells7c c1; clear c50 c51 c52 c53 c54 c55 c56; obtain ⟨c50, c51, c52, c53, c54, c55, c56⟩ := cells7c c5; rw [hX.out] at o10; obtain ⟨a10, n10, k10, rfl⟩ := o10.slice) | (clear mk18; go_at_call 29; refine (eqTexts_any X _ _ _ o10.rd o4.rd).mono ?_; rintro er w18 ⟨rfl, hB18⟩; have hz18 : w17.heap.size ≤ w18.heap.size := hB18.size; replace o4 := o4.grow hB18; replace p6 := p6.grow hB18; replace o8 := o8.grow hB18; replace o10 := o10.grow hB18; replace c1 := vblk_grow c1 hB18; replace c5 := vblk_grow c5 hB18; replace hB := hB.trans (hB18.mono (by omega)); replace hzw := hB.size; clear c10 c11 c12 c13 c14 c15 c16; obtain ⟨c10, c11, c12, c13, c14, c15, c16⟩ := cells7c c1; clear c50 c51 c52 c53 c54 c55 c56; obtain ⟨c50, c51, c52, c53, c54, c55, c56⟩ := cells7c c5) | (clear mk19; go_at_call 31; refine (heldTexts_any X.length _ 1 (by omega) (by omega) mm hmm.out _ p6.rd).mono ?_; rintro er w19 ⟨rfl, hB19⟩; have hz19 : w18.heap.size ≤ w19.heap.size := hB19.size; replace o4 := o4.grow hB19; replace p6 := p6.grow hB19; replace o8 := o8.grow hB19; replace o10 := o10.grow hB19; replace c1 := vblk_grow c1 hB19; replace c5 := vblk_grow c5 hB19; replace hB := hB.trans (hB19.mono (by omega)); replace hzw := hB.size; clear c10 c11 c12 c13 c14 c15 c16; obtain ⟨c10, c11, c12, c13, c14, c15, c16⟩ := cells7c c1; clear c50 c51 c52 c53 c54 c55 c56; obtain ⟨c50, c51, c52, c53, c54, c55, c56⟩ := cells7c c5) | (fail))
  go_ret
  exact ⟨rfl, hB⟩


/-! ### the row, by the frame -/
set_option maxRecDepth 100000 in
theorem lifted (os : Os) (started : os.Started) (H : Type) (enc : TypeId × Value → H) :
    ReturnsInHanded {} Try.checked os 7 .any (Rows.fnExactNamesOfSpec.pre6 enc Try.prog Try.f7 Rows.fnExactNamesOfRow.domain false) (Rows.fnExactNamesOfSpec.post enc Try.prog Try.f7 false true false false) := by
  refine returnsInHanded_of_change (C := Try.checked) own started (by kernel_rfl) Try.func7
    (ChangeSpec.witness6 (enc := enc) (C := Try.checked) false ⟨#[], #[.agg #[.int .i64 0, .slice none 0 0, .slice none 0 0, .int .i64 0, .slice none 0 0, .slice none 0 0, .int .i64 0]], []⟩ 8 (by kernel_rfl) (by kernel_rfl) (by kernel_rfl) (by kernel_rfl)) ?_
  intro W base args ds gs before hval0 hW hcnd _
  have hval : ∀ (j : Nat) t v, Try.f7.params[j]? = some t → args[j]? = some v → Value.okWide Try.prog W .any base t v := hval0
  have hW' := hW
  obtain ⟨p, q, hA0, hV, rfl, hfz, hnd⟩ := hW
  have hA : DataW.TrodAll enc Try.prog W 0 (fun _ => true) true Try.f7.params.toList args.toList ds p := hA0
  rw [Try.params7] at hA hval
  obtain ⟨v0, vs0, d0, ds0, p0, q0, hargs, rfl, rfl, h0, r0⟩ := trodAll_cons hA
  obtain ⟨rfl, rfl, rfl⟩ := trodAll_nil r0
  obtain rfl : args = #[v0] := by cases args; simp_all
  obtain ⟨rfl, rfl⟩ := trodVars_none hV
  have k0 := h0
  have lt0 : ∀ x ∈ p0, x.block < W.heap.size := by obtain ⟨m, hm⟩ := k0; exact DataW.trod_lt m _ _ _ hm
  obtain ⟨aN0, aU0, aQ0, aS0, C0, rfl, hR0⟩ := open_choice (hval 0 30 v0 rfl rfl) h0
  clear hA0 hval0
  refine (walk aN0 aU0 aQ0 aS0 C0 W hR0).mono fun e W' ⟨he, bel⟩ => ?_
  subst he
  exact ⟨_, rfl, _, _, _, [], _, [], hW', trodAll_mk1 (shut_bool Try.underlying4 _), (trodAll_cons_mk (Below.trod laidOut (by kernel_rfl) (of_decide_eq_true (by kernel_rfl)) k0 bel lt0) trodAll_mk0), rfl, bel.frame _, fun h => by cases h⟩

theorem over : Rows.fnExactNamesOfRow.holds Try.pinned (OpenSpec.ofChange Rows.fnExactNamesOfSpec) :=
  OpenClaim.holds_of_wide 7 Try.f7 rfl rfl rfl rfl rfl rfl rfl ⟨rfl, rfl, rfl, rfl, rfl⟩ rfl rfl rfl rfl rfl (by kernel_rfl) Try.func7 (by kernel_rfl)
    (of_decide_eq_true (by kernel_rfl)) (by unfold Func.isWrapper; first | (rw [if_pos (by decide +kernel)]; kernel_rfl) | (rw [if_neg (by decide +kernel)]; exact ⟨rfl, rfl⟩))
    (fun os started H enc _ => lifted os started H enc)

/-- the statement -/
theorem proved : Rows.FnExactNamesOfSaid := over
end Go.Proofs.Ytapchjkiiifhdaa.fnExactNamesOf

namespace Go.Proofs.Ytapchjkiiifhdaa
/-- the statement, under its short name -/
theorem fnExactNamesOf_holds : Rows.FnExactNamesOfSaid := fnExactNamesOf.proved
#print axioms fnExactNamesOf_holds
end Go.Proofs.Ytapchjkiiifhdaa
