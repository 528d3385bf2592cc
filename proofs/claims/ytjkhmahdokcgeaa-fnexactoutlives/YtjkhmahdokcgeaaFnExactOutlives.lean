/- For every two things the program's Outlives answers as the model's Outlives (the law itself lets off what has over 1048576 bytes): the law's call returns true and its arguments read as before; no condition. -/
import Derived.Test.YtjkhmahdokcgeaaOu1
import Derived.ShutString
import Derived.ChangeOld
import Derived.Deep.RegionHeld3
import Derived.Deep.DeepCutAuto
namespace Go.Proofs.Ytjkhmahdokcgeaa.fnExactOutlives
open Go.ChangeShapes Go.WideShapes Go.ChangeAt Go.RowKit
open Go.Proofs.Ytjkhmahdokcgeaa.ce Go.Proofs.Ytjkhmahdokcgeaa.ro Go.Proofs.Ytjkhmahdokcgeaa.rg
open Go.ChangeMaps (open_string shut_string)
set_option linter.unusedVariables false

theorem own : ownKnob Try.prog.godebug = none := by kernel_rfl
theorem laidOut : laidOutB Try.prog = true := by kernel_rfl

/-! ### the walk -/
set_option maxRecDepth 100000 in
set_option maxHeartbeats 4000000 in
theorem walk (N B : ByteArray) (F C U : Int) (N2 B2 : ByteArray) (F2 C2 U2 : Int) (w : World) (hN : N.size ≤ 9223372036854775807) (hB0 : B.size ≤ 9223372036854775807) (hN2 : N2.size ≤ 9223372036854775807) (hB02 : B2.size ≤ 9223372036854775807) :
    Calls Try.prog 6 #[.agg #[.string N, .int .i64 F, .string B, .int .i64 C, .int .i64 U], .agg #[.string N2, .int .i64 F2, .string B2, .int .i64 C2, .int .i64 U2]] w fun e w' => e = .returned (.bool true) ∧ Below w.heap.size w w' := by
  obtain ⟨z, hz⟩ := hid_ex (outB ⟨N, F, B, C, U⟩ ⟨N2, F2, B2, C2, U2⟩)
  have hzz : (z != z) = false := by simp
  go_enter Try.func6, Try.ntmps6
  have mk1 : Hid True := trivial
  have mk2 : Hid True := trivial
  have mk3 : Hid True := trivial
  have mk4 : Hid True := trivial
  go_wp2_with (first | (clear mk1; refine wpList_box_v rfl 49 _ rfl [.string N, .int .i64 F, .string B, .int .i64 C, .int .i64 U] rfl ?_; intro b2 w1 hb2 hwb2 hB1 c2; have hz1 : w.heap.size ≤ w1.heap.size := hB1.size; have hB := hB1; have hzw := hB.size; obtain ⟨c20, c21, c22, c23, c24⟩ := cells5 c2) | (clear mk2; refine wpList_box_v rfl 49 _ rfl [.string N2, .int .i64 F2, .string B2, .int .i64 C2, .int .i64 U2] rfl ?_; intro b3 w2 hb3 hwb3 hB2 c3; have hz2 : w1.heap.size ≤ w2.heap.size := hB2.size; replace c2 := vblk_grow c2 hB2; replace hB := hB.trans (hB2.mono (by omega)); replace hzw := hB.size; clear c20 c21 c22 c23 c24; obtain ⟨c20, c21, c22, c23, c24⟩ := cells5 c2; obtain ⟨c30, c31, c32, c33, c34⟩ := cells5 c3) | (clear mk3; go_at_call 31; refine (szItem_any N B F C U hN hB0 1048576 (by omega) (by omega) _).mono ?_; rintro er w3 ⟨q, rfl, hB3, hq, -⟩; have hz3 : w2.heap.size ≤ w3.heap.size := hB3.size; replace c2 := vblk_grow c2 hB3; replace c3 := vblk_grow c3 hB3; replace hB := hB.trans (hB3.mono (by omega)); replace hzw := hB.size; clear c20 c21 c22 c23 c24; obtain ⟨c20, c21, c22, c23, c24⟩ := cells5 c2; clear c30 c31 c32 c33 c34; obtain ⟨c30, c31, c32, c33, c34⟩ := cells5 c3; by_cases hneg : q < 0) | (clear mk4; go_at_call 31; refine (szItem_any N2 B2 F2 C2 U2 hN2 hB02 q (by omega) (by omega) _).mono ?_; rintro er w4 ⟨q2, rfl, hB4, -, -⟩; have hz4 : w3.heap.size ≤ w4.heap.size := hB4.size; replace c2 := vblk_grow c2 hB4; replace c3 := vblk_grow c3 hB4; replace hB := hB.trans (hB4.mono (by omega)); replace hzw := hB.size; clear c20 c21 c22 c23 c24; obtain ⟨c20, c21, c22, c23, c24⟩ := cells5 c2; clear c30 c31 c32 c33 c34; obtain ⟨c30, c31, c32, c33, c34⟩ := cells5 c3; by_cases hneg2 : q2 < 0) | (fail))
  · go_ret
    exact ⟨rfl, hB⟩
  · go_ret
    exact ⟨rfl, hB⟩
  have hBd : Below w4.heap.size w4 w4.drew := (Below.refl _ _).drew
  have hzd : w4.drew.heap.size ≤ w4.heap.size := Nat.le_refl _
  have hzd2 : w4.heap.size ≤ w4.drew.heap.size := Nat.le_refl _
  replace c2 := vblk_grow c2 hBd
  clear c20 c21 c22 c23 c24
  obtain ⟨c20, c21, c22, c23, c24⟩ := cells5 c2
  replace c3 := vblk_grow c3 hBd
  clear c30 c31 c32 c33 c34
  obtain ⟨c30, c31, c32, c33, c34⟩ := cells5 c3
  replace hB := hB.trans (hBd.mono (by omega))
  replace hzw := hB.size
  have S1 : (w4.drew.cell? ⟨b2, 0, none⟩ = some (.string N) ∧ w4.drew.cell? ⟨b2, 1, none⟩ = some (.int .i64 F) ∧ w4.drew.cell? ⟨b2, 2, none⟩ = some (.string B) ∧ w4.drew.cell? ⟨b2, 3, none⟩ = some (.int .i64 C) ∧ w4.drew.cell? ⟨b2, 4, none⟩ = some (.int .i64 U) ∧ w4.drew.cell? ⟨b3, 0, none⟩ = some (.string N2) ∧ w4.drew.cell? ⟨b3, 1, none⟩ = some (.int .i64 F2) ∧ w4.drew.cell? ⟨b3, 2, none⟩ = some (.string B2) ∧ w4.drew.cell? ⟨b3, 3, none⟩ = some (.int .i64 C2) ∧ w4.drew.cell? ⟨b3, 4, none⟩ = some (.int .i64 U2)) := ⟨c20, c21, c22, c23, c24, c30, c31, c32, c33, c34⟩
  have mk5 : Hid True := trivial
  have mk6 : Hid True := trivial
  have mk7 : Hid True := trivial
  go_region_held3 (fun w' => (w'.cell? ⟨b2, 0, none⟩ = some (.string N) ∧ w'.cell? ⟨b2, 1, none⟩ = some (.int .i64 F) ∧ w'.cell? ⟨b2, 2, none⟩ = some (.string B) ∧ w'.cell? ⟨b2, 3, none⟩ = some (.int .i64 C) ∧ w'.cell? ⟨b2, 4, none⟩ = some (.int .i64 U) ∧ w'.cell? ⟨b3, 0, none⟩ = some (.string N2) ∧ w'.cell? ⟨b3, 1, none⟩ = some (.int .i64 F2) ∧ w'.cell? ⟨b3, 2, none⟩ = some (.string B2) ∧ w'.cell? ⟨b3, 3, none⟩ = some (.int .i64 C2) ∧ w'.cell? ⟨b3, 4, none⟩ = some (.int .i64 U2))) (first | with_reducible assumption | with_reducible exact S1 | (fail)) (first | (clear mk5; go_at_call 32; refine (toItem_any N B F C U (w4.drew)).mono ?_; rintro er w5 ⟨rfl, hB5⟩; have hz5 : w4.drew.heap.size ≤ w5.heap.size := hB5.size; replace c2 := vblk_grow c2 hB5; replace c3 := vblk_grow c3 hB5; replace hB := hB.trans (hB5.mono (by omega)); replace hzw := hB.size; clear c20 c21 c22 c23 c24; obtain ⟨c20, c21, c22, c23, c24⟩ := cells5 c2; clear c30 c31 c32 c33 c34; obtain ⟨c30, c31, c32, c33, c34⟩ := cells5 c3; have S2 : (w5.cell? ⟨b2, 0, none⟩ = some (.string N) ∧ w5.cell? ⟨b2, 1, none⟩ = some (.int .i64 F) ∧ w5.cell? ⟨b2, 2, none⟩ = some (.string B) ∧ w5.cell? ⟨b2, 3, none⟩ = some (.int .i64 C) ∧ w5.cell? ⟨b2, 4, none⟩ = some (.int .i64 U) ∧ w5.cell? ⟨b3, 0, none⟩ = some (.string N2) ∧ w5.cell? ⟨b3, 1, none⟩ = some (.int .i64 F2) ∧ w5.cell? ⟨b3, 2, none⟩ = some (.string B2) ∧ w5.cell? ⟨b3, 3, none⟩ = some (.int .i64 C2) ∧ w5.cell? ⟨b3, 4, none⟩ = some (.int .i64 U2)) := ⟨c20, c21, c22, c23, c24, c30, c31, c32, c33, c34⟩) | (clear mk6; go_at_call 32; refine (toItem_any N2 B2 F2 C2 U2 _).mono ?_; rintro er w6 ⟨rfl, hB6⟩; have hz6 : w5.heap.size ≤ w6.heap.size := hB6.size; replace c2 := vblk_grow c2 hB6; replace c3 := vblk_grow c3 hB6; replace hB := hB.trans (hB6.mono (by omega)); replace hzw := hB.size; clear c20 c21 c22 c23 c24; obtain ⟨c20, c21, c22, c23, c24⟩ := cells5 c2; clear c30 c31 c32 c33 c34; obtain ⟨c30, c31, c32, c33, c34⟩ := cells5 c3; have S3 : (w6.cell? ⟨b2, 0, none⟩ = some (.string N) ∧ w6.cell? ⟨b2, 1, none⟩ = some (.int .i64 F) ∧ w6.cell? ⟨b2, 2, none⟩ = some (.string B) ∧ w6.cell? ⟨b2, 3, none⟩ = some (.int .i64 C) ∧ w6.cell? ⟨b2, 4, none⟩ = some (.int .i64 U) ∧ w6.cell? ⟨b3, 0, none⟩ = some (.string N2) ∧ w6.cell? ⟨b3, 1, none⟩ = some (.int .i64 F2) ∧ w6.cell? ⟨b3, 2, none⟩ = some (.string B2) ∧ w6.cell? ⟨b3, 3, none⟩ = some (.int .i64 C2) ∧ w6.cell? ⟨b3, 4, none⟩ = some (.int .i64 U2)) := ⟨c20, c21, c22, c23, c24, c30, c31, c32, c33, c34⟩) | (clear mk7; go_at_call 19; refine (specOutlives_any N B F C U N2 B2 F2 C2 U2 z hz hN hB0 hN2 hB02 _).mono ?_; rintro er w7 ⟨rfl, hB7⟩; have hz7 : w6.heap.size ≤ w7.heap.size := hB7.size; replace c2 := vblk_grow c2 hB7; replace c3 := vblk_grow c3 hB7; replace hB := hB.trans (hB7.mono (by omega)); replace hzw := hB.size; clear c20 c21 c22 c23 c24; obtain ⟨c20, c21, c22, c23, c24⟩ := cells5 c2; clear c30 c31 c32 c33 c34; obtain ⟨c30, c31, c32, c33, c34⟩ := cells5 c3; have S4 : (w7.cell? ⟨b2, 0, none⟩ = some (.string N) ∧ w7.cell? ⟨b2, 1, none⟩ = some (.int .i64 F) ∧ w7.cell? ⟨b2, 2, none⟩ = some (.string B) ∧ w7.cell? ⟨b2, 3, none⟩ = some (.int .i64 C) ∧ w7.cell? ⟨b2, 4, none⟩ = some (.int .i64 U) ∧ w7.cell? ⟨b3, 0, none⟩ = some (.string N2) ∧ w7.cell? ⟨b3, 1, none⟩ = some (.int .i64 F2) ∧ w7.cell? ⟨b3, 2, none⟩ = some (.string B2) ∧ w7.cell? ⟨b3, 3, none⟩ = some (.int .i64 C2) ∧ w7.cell? ⟨b3, 4, none⟩ = some (.int .i64 U2)) := ⟨c20, c21, c22, c23, c24, c30, c31, c32, c33, c34⟩) | (fail))
  clear S1 hBd
  go_upto_region 9 with (fail)
  have hBd : Below w7.heap.size w7 w7.drew := (Below.refl _ _).drew
  have hzd : w7.drew.heap.size ≤ w7.heap.size := Nat.le_refl _
  have hzd2 : w7.heap.size ≤ w7.drew.heap.size := Nat.le_refl _
  replace c2 := vblk_grow c2 hBd
  clear c20 c21 c22 c23 c24
  obtain ⟨c20, c21, c22, c23, c24⟩ := cells5 c2
  replace c3 := vblk_grow c3 hBd
  clear c30 c31 c32 c33 c34
  obtain ⟨c30, c31, c32, c33, c34⟩ := cells5 c3
  replace hB := hB.trans (hBd.mono (by omega))
  replace hzw := hB.size
  have S1 : (w7.drew.cell? ⟨b2, 0, none⟩ = some (.string N) ∧ w7.drew.cell? ⟨b2, 1, none⟩ = some (.int .i64 F) ∧ w7.drew.cell? ⟨b2, 2, none⟩ = some (.string B) ∧ w7.drew.cell? ⟨b2, 3, none⟩ = some (.int .i64 C) ∧ w7.drew.cell? ⟨b2, 4, none⟩ = some (.int .i64 U) ∧ w7.drew.cell? ⟨b3, 0, none⟩ = some (.string N2) ∧ w7.drew.cell? ⟨b3, 1, none⟩ = some (.int .i64 F2) ∧ w7.drew.cell? ⟨b3, 2, none⟩ = some (.string B2) ∧ w7.drew.cell? ⟨b3, 3, none⟩ = some (.int .i64 C2) ∧ w7.drew.cell? ⟨b3, 4, none⟩ = some (.int .i64 U2)) := ⟨c20, c21, c22, c23, c24, c30, c31, c32, c33, c34⟩
  have mk8 : Hid True := trivial
  have mk9 : Hid True := trivial
  have mk10 : Hid True := trivial
  go_region_held3 (fun w' => (w'.cell? ⟨b2, 0, none⟩ = some (.string N) ∧ w'.cell? ⟨b2, 1, none⟩ = some (.int .i64 F) ∧ w'.cell? ⟨b2, 2, none⟩ = some (.string B) ∧ w'.cell? ⟨b2, 3, none⟩ = some (.int .i64 C) ∧ w'.cell? ⟨b2, 4, none⟩ = some (.int .i64 U) ∧ w'.cell? ⟨b3, 0, none⟩ = some (.string N2) ∧ w'.cell? ⟨b3, 1, none⟩ = some (.int .i64 F2) ∧ w'.cell? ⟨b3, 2, none⟩ = some (.string B2) ∧ w'.cell? ⟨b3, 3, none⟩ = some (.int .i64 C2) ∧ w'.cell? ⟨b3, 4, none⟩ = some (.int .i64 U2))) (first | with_reducible assumption | with_reducible exact S1 | (fail)) (first | (clear mk8; go_at_call 32; refine (toItem_any N B F C U (w7.drew)).mono ?_; rintro er w8 ⟨rfl, hB8⟩; have hz8 : w7.drew.heap.size ≤ w8.heap.size := hB8.size; replace c2 := vblk_grow c2 hB8; replace c3 := vblk_grow c3 hB8; replace hB := hB.trans (hB8.mono (by omega)); replace hzw := hB.size; clear c20 c21 c22 c23 c24; obtain ⟨c20, c21, c22, c23, c24⟩ := cells5 c2; clear c30 c31 c32 c33 c34; obtain ⟨c30, c31, c32, c33, c34⟩ := cells5 c3; have S2 : (w8.cell? ⟨b2, 0, none⟩ = some (.string N) ∧ w8.cell? ⟨b2, 1, none⟩ = some (.int .i64 F) ∧ w8.cell? ⟨b2, 2, none⟩ = some (.string B) ∧ w8.cell? ⟨b2, 3, none⟩ = some (.int .i64 C) ∧ w8.cell? ⟨b2, 4, none⟩ = some (.int .i64 U) ∧ w8.cell? ⟨b3, 0, none⟩ = some (.string N2) ∧ w8.cell? ⟨b3, 1, none⟩ = some (.int .i64 F2) ∧ w8.cell? ⟨b3, 2, none⟩ = some (.string B2) ∧ w8.cell? ⟨b3, 3, none⟩ = some (.int .i64 C2) ∧ w8.cell? ⟨b3, 4, none⟩ = some (.int .i64 U2)) := ⟨c20, c21, c22, c23, c24, c30, c31, c32, c33, c34⟩) | (clear mk9; go_at_call 32; refine (toItem_any N2 B2 F2 C2 U2 _).mono ?_; rintro er w9 ⟨rfl, hB9⟩; have hz9 : w8.heap.size ≤ w9.heap.size := hB9.size; replace c2 := vblk_grow c2 hB9; replace c3 := vblk_grow c3 hB9; replace hB := hB.trans (hB9.mono (by omega)); replace hzw := hB.size; clear c20 c21 c22 c23 c24; obtain ⟨c20, c21, c22, c23, c24⟩ := cells5 c2; clear c30 c31 c32 c33 c34; obtain ⟨c30, c31, c32, c33, c34⟩ := cells5 c3; have S3 : (w9.cell? ⟨b2, 0, none⟩ = some (.string N) ∧ w9.cell? ⟨b2, 1, none⟩ = some (.int .i64 F) ∧ w9.cell? ⟨b2, 2, none⟩ = some (.string B) ∧ w9.cell? ⟨b2, 3, none⟩ = some (.int .i64 C) ∧ w9.cell? ⟨b2, 4, none⟩ = some (.int .i64 U) ∧ w9.cell? ⟨b3, 0, none⟩ = some (.string N2) ∧ w9.cell? ⟨b3, 1, none⟩ = some (.int .i64 F2) ∧ w9.cell? ⟨b3, 2, none⟩ = some (.string B2) ∧ w9.cell? ⟨b3, 3, none⟩ = some (.int .i64 C2) ∧ w9.cell? ⟨b3, 4, none⟩ = some (.int .i64 U2)) := ⟨c20, c21, c22, c23, c24, c30, c31, c32, c33, c34⟩) | (clear mk10; go_at_call 18; refine (implOutlives_any N B F C U N2 B2 F2 C2 U2 z hz hN hB0 hN2 hB02 _).mono ?_; rintro er w10 ⟨rfl, hB10⟩; have hz10 : w9.heap.size ≤ w10.heap.size := hB10.size; replace c2 := vblk_grow c2 hB10; replace c3 := vblk_grow c3 hB10; replace hB := hB.trans (hB10.mono (by omega)); replace hzw := hB.size; clear c20 c21 c22 c23 c24; obtain ⟨c20, c21, c22, c23, c24⟩ := cells5 c2; clear c30 c31 c32 c33 c34; obtain ⟨c30, c31, c32, c33, c34⟩ := cells5 c3; have S4 : (w10.cell? ⟨b2, 0, none⟩ = some (.string N) ∧ w10.cell? ⟨b2, 1, none⟩ = some (.int .i64 F) ∧ w10.cell? ⟨b2, 2, none⟩ = some (.string B) ∧ w10.cell? ⟨b2, 3, none⟩ = some (.int .i64 C) ∧ w10.cell? ⟨b2, 4, none⟩ = some (.int .i64 U) ∧ w10.cell? ⟨b3, 0, none⟩ = some (.string N2) ∧ w10.cell? ⟨b3, 1, none⟩ = some (.int .i64 F2) ∧ w10.cell? ⟨b3, 2, none⟩ = some (.string B2) ∧ w10.cell? ⟨b3, 3, none⟩ = some (.int .i64 C2) ∧ w10.cell? ⟨b3, 4, none⟩ = some (.int .i64 U2)) := ⟨c20, c21, c22, c23, c24, c30, c31, c32, c33, c34⟩) | (fail))
  clear S1 hBd
  go_wp2
  go_ret
  exact ⟨rfl, hB⟩

/-! ### the row, by the frame -/
set_option maxRecDepth 100000 in
theorem lifted (os : Os) (started : os.Started) (H : Type) (enc : TypeId × Value → H) :
    ReturnsInHanded {} Try.checked os 6 .any (Rows.fnExactOutlivesSpec.pre6 enc Try.prog Try.f6 Rows.fnExactOutlivesRow.domain false) (Rows.fnExactOutlivesSpec.post enc Try.prog Try.f6 false true false false) := by
  refine returnsInHanded_of_change (C := Try.checked) own started (by kernel_rfl) Try.func6
    (ChangeSpec.witness6 (enc := enc) (C := Try.checked) false ⟨#[], #[.agg #[.string ByteArray.empty, .int .i64 0, .string ByteArray.empty, .int .i64 0, .int .i64 0], .agg #[.string ByteArray.empty, .int .i64 0, .string ByteArray.empty, .int .i64 0, .int .i64 0]], []⟩ 8 (by kernel_rfl) (by kernel_rfl) (by kernel_rfl) (by kernel_rfl)) ?_
  intro W base args ds gs before hval0 hW hcnd _
  have hval : ∀ (j : Nat) t v, Try.f6.params[j]? = some t → args[j]? = some v → Value.okWide Try.prog W .any base t v := hval0
  have hW' := hW
  obtain ⟨p, q, hA0, hV, rfl, hfz, hnd⟩ := hW
  have hA : DataW.TrodAll enc Try.prog W 0 (fun _ => true) true Try.f6.params.toList args.toList ds p := hA0
  rw [Try.params6] at hA hval
  obtain ⟨v0, vs0, d0, ds0, p0, q0, hargs, rfl, rfl, h0, r0⟩ := trodAll_cons hA
  obtain ⟨v1, vs1, d1, ds1, p1, q1, rfl, rfl, rfl, h1, r1⟩ := trodAll_cons r0
  obtain ⟨rfl, rfl, rfl⟩ := trodAll_nil r1
  obtain rfl : args = #[v0, v1] := by cases args; simp_all
  obtain ⟨rfl, rfl⟩ := trodVars_none hV
  have k0 := h0
  have lt0 : ∀ x ∈ p0, x.block < W.heap.size := by obtain ⟨m, hm⟩ := k0; exact DataW.trod_lt m _ _ _ hm
  obtain ⟨N0, F0, B0, C0, U0, rfl, sN0, sB0⟩ := open_item (hval 0 49 v0 rfl rfl) h0
  have k1 := h1
  have lt1 : ∀ x ∈ p1, x.block < W.heap.size := by obtain ⟨m, hm⟩ := k1; exact DataW.trod_lt m _ _ _ hm
  obtain ⟨N1, F1, B1, C1, U1, rfl, sN1, sB1⟩ := open_item (hval 1 49 v1 rfl rfl) h1
  clear hA0 hval0
  refine (walk N0 B0 F0 C0 U0 N1 B1 F1 C1 U1 W sN0 sB0 sN1 sB1).mono fun e W' ⟨he, bel⟩ => ?_
  subst he
  exact ⟨_, rfl, _, _, _, [], _, [], hW', trodAll_mk1 (shut_bool Try.underlying4 _), (trodAll_cons_mk (Below.trod laidOut (by kernel_rfl) (of_decide_eq_true (by kernel_rfl)) k0 bel lt0) (trodAll_cons_mk (Below.trod laidOut (by kernel_rfl) (of_decide_eq_true (by kernel_rfl)) k1 bel lt1) trodAll_mk0)), rfl, bel.frame _, fun h => by cases h⟩

theorem over : Rows.fnExactOutlivesRow.holds Try.pinned (OpenSpec.ofChange Rows.fnExactOutlivesSpec) :=
  OpenClaim.holds_of_wide 6 Try.f6 rfl rfl rfl rfl rfl rfl rfl ⟨rfl, rfl, rfl, rfl, rfl⟩ rfl rfl rfl rfl rfl (by kernel_rfl) Try.func6 (by kernel_rfl)
    (of_decide_eq_true (by kernel_rfl)) (by unfold Func.isWrapper; first | (rw [if_pos (by decide +kernel)]; kernel_rfl) | (rw [if_neg (by decide +kernel)]; exact ⟨rfl, rfl⟩))
    (fun os started H enc _ => lifted os started H enc)

/-- the statement -/
theorem proved : Rows.FnExactOutlivesSaid := over
end Go.Proofs.Ytjkhmahdokcgeaa.fnExactOutlives

namespace Go.Proofs.Ytjkhmahdokcgeaa
/-- the statement, under its short name -/
theorem fnExactOutlives_holds : Rows.FnExactOutlivesSaid := fnExactOutlives.proved
#print axioms fnExactOutlives_holds
end Go.Proofs.Ytjkhmahdokcgeaa
