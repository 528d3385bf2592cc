/- For every choice the program's ChoiceOk answers as the model's ChoiceOk, and writes into nothing that it was given (the law itself lets off what has over 1048576 names and numbers): the law's call returns true and its arguments read as before; no condition. -/
import Derived.Test.YtapchjkiiifhdaaMg10
import Derived.Deep.DeepCutAuto
import Derived.Deep.RegionHeld3
namespace Go.Proofs.Ytapchjkiiifhdaa.fnExactChoiceOk
open Go.ChangeShapes Go.WideShapes Go.ChangeAt Go.RowKit
open Go.Proofs.Ytapchjkiiifhdaa.ce Go.Proofs.Ytapchjkiiifhdaa.ro Go.Proofs.Ytapchjkiiifhdaa.rg
set_option linter.unusedVariables false

theorem own : ownKnob Try.prog.godebug = none := by kernel_rfl
theorem laidOut : laidOutB Try.prog = true := by kernel_rfl

/-! ### the walk -/
set_option maxRecDepth 100000 in
set_option maxHeartbeats 4000000 in
theorem walk (vN vU vQ vS : Value) (c : Ch) (w : World) (hv : RdC w vN vU vQ vS c) :
    Calls Try.prog 3 #[.agg #[.int .i64 c.K, vN, vU, .int .i64 c.R.A, vQ, vS, .int .i64 c.D]] w fun e w' => e = .returned (.bool true) ∧ Below w.heap.size w w' := by
  obtain ⟨⟨aN0, nN0, kN0, rfl⟩, ⟨aU0, nU0, kU0, rfl⟩, ⟨aQ0, nQ0, kQ0, rfl⟩, ⟨aS0, nS0, kS0, rfl⟩⟩ := RdC.forms hv
  have R : Hid (RdC w (.slice aN0 nN0 kN0) (.slice aU0 nU0 kU0) (.slice aQ0 nQ0 kQ0) (.slice aS0 nS0 kS0) c) := hv
  clear hv
  obtain ⟨y, hy⟩ := hid_ex (chB c)
  have hyy : (y != y) = false := by cases y <;> rfl
  go_enter Try.func3, Try.ntmps3
  have mk1 : Hid True := trivial
  have mk2 : Hid True := trivial
  go_wp2_with (first | (clear mk1; refine wpList_box_v rfl 30 _ rfl [.int .i64 c.K, .slice aN0 nN0 kN0, .slice aU0 nU0 kU0, .int .i64 c.R.A, .slice aQ0 nQ0 kQ0, .slice aS0 nS0 kS0, .int .i64 c.D] rfl ?_; intro b1 w1 hb1 hwb1 hB1 c1; have hz1 : w.heap.size ≤ w1.heap.size := hB1.size; have hB := hB1; have hzw := hB.size; obtain ⟨c10, c11, c12, c13, c14, c15, c16⟩ := cells7c c1) | (clear mk2; go_at_call 14; refine (szChoice_any c _ _ _ _ _ (R.out.grow hB)).mono ?_; rintro er w2 ⟨q, rfl, hB2, hq⟩; have hz2 : w1.heap.size ≤ w2.heap.size := hB2.size; replace c1 := vblk_grow c1 hB2; replace hB := hB.trans (hB2.mono (by omega)); replace hzw := hB.size; clear c10 c11 c12 c13 c14 c15 c16; obtain ⟨c10, c11, c12, c13, c14, c15, c16⟩ := cells7c c1; by_cases hneg : q < 0) | (fail))
  · go_ret
    exact ⟨rfl, hB⟩
  have hm : Mod c := hq (by omega)
  clear hq
  have hneg2 : decide (q < 0) = false := decide_eq_false (by omega)
  have mk3 : Hid True := trivial
  have mk4 : Hid True := trivial
  have mk5 : Hid True := trivial
  have mk6 : Hid True := trivial
  have mk7 : Hid True := trivial
  have mk8 : Hid True := trivial
  go_upto_region 10 with (first | (clear mk3; go_at_call 16; refine (toChoice_any c hm _ _ _ _ _ (R.out.grow hB)).mono ?_; rintro er w3 ⟨vN2, vU2, vQ2, vS2, rfl, o2, hB3⟩; have hz3 : w2.heap.size ≤ w3.heap.size := hB3.size; replace c1 := vblk_grow c1 hB3; replace hB := hB.trans (hB3.mono (by omega)); replace hzw := hB.size; clear c10 c11 c12 c13 c14 c15 c16; obtain ⟨c10, c11, c12, c13, c14, c15, c16⟩ := cells7c c1; obtain ⟨⟨aN2, nN2, kN2, rfl⟩, ⟨aU2, nU2, kU2, rfl⟩, ⟨aQ2, nQ2, kQ2, rfl⟩, ⟨aS2, nS2, kS2, rfl⟩⟩ := o2.forms) | (clear mk4; go_at_call 15; refine (specChoiceOk_any c _ _ _ _ _ (o2.rd R.out.r.s R.out.qs) y hy).mono ?_; rintro er w4 ⟨rfl, hB4⟩; have hz4 : w3.heap.size ≤ w4.heap.size := hB4.size; replace o2 := o2.grow hB4; replace c1 := vblk_grow c1 hB4; replace hB := hB.trans (hB4.mono (by omega)); replace hzw := hB.size; clear c10 c11 c12 c13 c14 c15 c16; obtain ⟨c10, c11, c12, c13, c14, c15, c16⟩ := cells7c c1) | (clear mk5; go_at_call 16; refine (toChoice_any c hm _ _ _ _ _ (R.out.grow hB)).mono ?_; rintro er w5 ⟨vN3, vU3, vQ3, vS3, rfl, o3, hB5⟩; have hz5 : w4.heap.size ≤ w5.heap.size := hB5.size; replace c1 := vblk_grow c1 hB5; replace hB := hB.trans (hB5.mono (by omega)); replace hzw := hB.size; clear c10 c11 c12 c13 c14 c15 c16; obtain ⟨c10, c11, c12, c13, c14, c15, c16⟩ := cells7c c1; obtain ⟨⟨aN3, nN3, kN3, rfl⟩, ⟨aU3, nU3, kU3, rfl⟩, ⟨aQ3, nQ3, kQ3, rfl⟩, ⟨aS3, nS3, kS3, rfl⟩⟩ := o3.forms) | (clear mk6; refine wpList_alloc_v rfl 36 rfl _ zeroCh ?_; intro b5 w6 hb5 hwb5 hB6 c5; have hz6 : w5.heap.size ≤ w6.heap.size := hB6.size; replace o3 := o3.grow hB6; replace c1 := vblk_grow c1 hB6; replace hB := hB.trans (hB6.mono (by omega)); replace hzw := hB.size; clear c10 c11 c12 c13 c14 c15 c16; obtain ⟨c10, c11, c12, c13, c14, c15, c16⟩ := cells7c c1) | (clear mk7; refine wpList_store_v rfl 36 _ _ rfl b5 [.int .i64 c.K, .slice aN3 nN3 kN3, .slice aU3 nU3 kU3, .int .i64 c.R.A, .slice aQ3 nQ3 kQ3, .slice aS3 nS3 kS3, .int .i64 c.D] rfl rfl sizeCh c5 rfl (by simp [Value.oneCell']) ?_; intro w7 hO7 c5x; have hz7 : w6.heap.size ≤ w7.heap.size := (Nat.le_of_eq hO7.1.symm); have hy7 : w7.heap.size ≤ w6.heap.size := (Nat.le_of_eq hO7.1); replace o3 := o3.below (hO7.2.2 b5 (Nat.le_refl _)) (by omega); replace c1 := vblk_only c1 hO7 (by omega); replace hB := hB.trans (hO7.2.2 _ (by omega)); replace hzw := hB.size; clear c10 c11 c12 c13 c14 c15 c16; obtain ⟨c10, c11, c12, c13, c14, c15, c16⟩ := cells7c c1; clear c5; have c5 := c5x; clear c5x; obtain ⟨c50, c51, c52, c53, c54, c55, c56⟩ := cells7c c5) | (clear mk8; go_at_call 17; refine (implChoiceOk_any c _ _ _ _ _ (o3.rd R.out.r.s R.out.qs) y hy).mono ?_; rintro er w8 ⟨rfl, hB8⟩; have hz8 : w7.heap.size ≤ w8.heap.size := hB8.size; replace o3 := o3.grow hB8; replace c1 := vblk_grow c1 hB8; replace c5 := vblk_grow c5 hB8; replace hB := hB.trans (hB8.mono (by omega)); replace hzw := hB.size; clear c10 c11 c12 c13 c14 c15 c16; obtain ⟨c10, c11, c12, c13, c14, c15, c16⟩ := cells7c c1; clear c50 c51 c52 c53 c54 c55 c56; obtain ⟨c50, c51, c52, c53, c54, c55, c56⟩ := cells7c c5) | (fail))
  have hBd : Below w8.heap.size w8 w8.drew := (Below.refl _ _).drew
  have hzd : w8.drew.heap.size ≤ w8.heap.size := Nat.le_refl _
  have hzd2 : w8.heap.size ≤ w8.drew.heap.size := Nat.le_refl _
  replace o3 := o3.grow hBd
  replace c1 := vblk_grow c1 hBd
  clear c10 c11 c12 c13 c14 c15 c16
  obtain ⟨c10, c11, c12, c13, c14, c15, c16⟩ := cells7c c1
  replace c5 := vblk_grow c5 hBd
  clear c50 c51 c52 c53 c54 c55 c56
  obtain ⟨c50, c51, c52, c53, c54, c55, c56⟩ := cells7c c5
  replace hB := hB.trans (hBd.mono (by omega))
  replace hzw := hB.size
  have S1 : w8.drew.cell? ⟨b5, 0, none⟩ = some (.int .i64 c.K) ∧ w8.drew.cell? ⟨b5, 1, none⟩ = some (.slice aN3 nN3 kN3) ∧ w8.drew.cell? ⟨b5, 2, none⟩ = some (.slice aU3 nU3 kU3) ∧ w8.drew.cell? ⟨b5, 3, none⟩ = some (.int .i64 c.R.A) ∧ w8.drew.cell? ⟨b5, 4, none⟩ = some (.slice aQ3 nQ3 kQ3) ∧ w8.drew.cell? ⟨b5, 5, none⟩ = some (.slice aS3 nS3 kS3) ∧ w8.drew.cell? ⟨b5, 6, none⟩ = some (.int .i64 c.D) ∧ w8.drew.cell? ⟨b1, 0, none⟩ = some (.int .i64 c.K) ∧ w8.drew.cell? ⟨b1, 1, none⟩ = some (.slice aN0 nN0 kN0) ∧ w8.drew.cell? ⟨b1, 2, none⟩ = some (.slice aU0 nU0 kU0) ∧ w8.drew.cell? ⟨b1, 3, none⟩ = some (.int .i64 c.R.A) ∧ w8.drew.cell? ⟨b1, 4, none⟩ = some (.slice aQ0 nQ0 kQ0) ∧ w8.drew.cell? ⟨b1, 5, none⟩ = some (.slice aS0 nS0 kS0) ∧ w8.drew.cell? ⟨b1, 6, none⟩ = some (.int .i64 c.D) := ⟨c50, c51, c52, c53, c54, c55, c56, c10, c11, c12, c13, c14, c15, c16⟩
  have mk9 : Hid True := trivial
  have mk10 : Hid True := trivial
  go_region_held3 (fun w' => w'.cell? ⟨b5, 0, none⟩ = some (.int .i64 c.K) ∧ w'.cell? ⟨b5, 1, none⟩ = some (.slice aN3 nN3 kN3) ∧ w'.cell? ⟨b5, 2, none⟩ = some (.slice aU3 nU3 kU3) ∧ w'.cell? ⟨b5, 3, none⟩ = some (.int .i64 c.R.A) ∧ w'.cell? ⟨b5, 4, none⟩ = some (.slice aQ3 nQ3 kQ3) ∧ w'.cell? ⟨b5, 5, none⟩ = some (.slice aS3 nS3 kS3) ∧ w'.cell? ⟨b5, 6, none⟩ = some (.int .i64 c.D) ∧ w'.cell? ⟨b1, 0, none⟩ = some (.int .i64 c.K) ∧ w'.cell? ⟨b1, 1, none⟩ = some (.slice aN0 nN0 kN0) ∧ w'.cell? ⟨b1, 2, none⟩ = some (.slice aU0 nU0 kU0) ∧ w'.cell? ⟨b1, 3, none⟩ = some (.int .i64 c.R.A) ∧ w'.cell? ⟨b1, 4, none⟩ = some (.slice aQ0 nQ0 kQ0) ∧ w'.cell? ⟨b1, 5, none⟩ = some (.slice aS0 nS0 kS0) ∧ w'.cell? ⟨b1, 6, none⟩ = some (.int .i64 c.D)) (first | with_reducible assumption | with_reducible exact S1 | (fail)) (first | (clear mk9; go_at_call 16; refine (toChoice_any c hm _ _ _ _ _ (R.out.grow hB)).mono ?_; rintro er w9 ⟨vN4, vU4, vQ4, vS4, rfl, o4, hB9⟩; have hz9 : w8.drew.heap.size ≤ w9.heap.size := hB9.size; replace o3 := o3.grow hB9; replace c1 := vblk_grow c1 hB9; replace c5 := vblk_grow c5 hB9; replace hB := hB.trans (hB9.mono (by omega)); replace hzw := hB.size; clear c10 c11 c12 c13 c14 c15 c16; obtain ⟨c10, c11, c12, c13, c14, c15, c16⟩ := cells7c c1; clear c50 c51 c52 c53 c54 c55 c56; obtain ⟨c50, c51, c52, c53, c54, c55, c56⟩ := cells7c c5; obtain ⟨⟨aN4, nN4, kN4, rfl⟩, ⟨aU4, nU4, kU4, rfl⟩, ⟨aQ4, nQ4, kQ4, rfl⟩, ⟨aS4, nS4, kS4, rfl⟩⟩ := o4.forms; have S2 : w9.cell? ⟨b5, 0, none⟩ = some (.int .i64 c.K) ∧ w9.cell? ⟨b5, 1, none⟩ = some (.slice aN3 nN3 kN3) ∧ w9.cell? ⟨b5, 2, none⟩ = some (.slice aU3 nU3 kU3) ∧ w9.cell? ⟨b5, 3, none⟩ = some (.int .i64 c.R.A) ∧ w9.cell? ⟨b5, 4, none⟩ = some (.slice aQ3 nQ3 kQ3) ∧ w9.cell? ⟨b5, 5, none⟩ = some (.slice aS3 nS3 kS3) ∧ w9.cell? ⟨b5, 6, none⟩ = some (.int .i64 c.D) ∧ w9.cell? ⟨b1, 0, none⟩ = some (.int .i64 c.K) ∧ w9.cell? ⟨b1, 1, none⟩ = some (.slice aN0 nN0 kN0) ∧ w9.cell? ⟨b1, 2, none⟩ = some (.slice aU0 nU0 kU0) ∧ w9.cell? ⟨b1, 3, none⟩ = some (.int .i64 c.R.A) ∧ w9.cell? ⟨b1, 4, none⟩ = some (.slice aQ0 nQ0 kQ0) ∧ w9.cell? ⟨b1, 5, none⟩ = some (.slice aS0 nS0 kS0) ∧ w9.cell? ⟨b1, 6, none⟩ = some (.int .i64 c.D) := ⟨c50, c51, c52, c53, c54, c55, c56, c10, c11, c12, c13, c14, c15, c16⟩) | (clear mk10; go_at_call 18; refine (eqChoice_any c _ _ _ _ _ _ _ _ _ (o3.rd R.out.r.s R.out.qs) (o4.rd R.out.r.s R.out.qs)).mono ?_; rintro er w10 ⟨rfl, hB10⟩; have hz10 : w9.heap.size ≤ w10.heap.size := hB10.size; replace o3 := o3.grow hB10; replace o4 := o4.grow hB10; replace c1 := vblk_grow c1 hB10; replace c5 := vblk_grow c5 hB10; replace hB := hB.trans (hB10.mono (by omega)); replace hzw := hB.size; clear c10 c11 c12 c13 c14 c15 c16; obtain ⟨c10, c11, c12, c13, c14, c15, c16⟩ := cells7c c1; clear c50 c51 c52 c53 c54 c55 c56; obtain ⟨c50, c51, c52, c53, c54, c55, c56⟩ := cells7c c5; have S3 : w10.cell? ⟨b5, 0, none⟩ = some (.int .i64 c.K) ∧ w10.cell? ⟨b5, 1, none⟩ = some (.slice aN3 nN3 kN3) ∧ w10.cell? ⟨b5, 2, none⟩ = some (.slice aU3 nU3 kU3) ∧ w10.cell? ⟨b5, 3, none⟩ = some (.int .i64 c.R.A) ∧ w10.cell? ⟨b5, 4, none⟩ = some (.slice aQ3 nQ3 kQ3) ∧ w10.cell? ⟨b5, 5, none⟩ = some (.slice aS3 nS3 kS3) ∧ w10.cell? ⟨b5, 6, none⟩ = some (.int .i64 c.D) ∧ w10.cell? ⟨b1, 0, none⟩ = some (.int .i64 c.K) ∧ w10.cell? ⟨b1, 1, none⟩ = some (.slice aN0 nN0 kN0) ∧ w10.cell? ⟨b1, 2, none⟩ = some (.slice aU0 nU0 kU0) ∧ w10.cell? ⟨b1, 3, none⟩ = some (.int .i64 c.R.A) ∧ w10.cell? ⟨b1, 4, none⟩ = some (.slice aQ0 nQ0 kQ0) ∧ w10.cell? ⟨b1, 5, none⟩ = some (.slice aS0 nS0 kS0) ∧ w10.cell? ⟨b1, 6, none⟩ = some (.int .i64 c.D) := ⟨c50, c51, c52, c53, c54, c55, c56, c10, c11, c12, c13, c14, c15, c16⟩) | (fail))
  clear S1 hBd
  go_wp2
  go_ret
  exact ⟨rfl, hB⟩


/-! ### the row, by the frame -/
set_option maxRecDepth 100000 in
theorem lifted (os : Os) (started : os.Started) (H : Type) (enc : TypeId × Value → H) :
    ReturnsInHanded {} Try.checked os 3 .any (Rows.fnExactChoiceOkSpec.pre6 enc Try.prog Try.f3 Rows.fnExactChoiceOkRow.domain false) (Rows.fnExactChoiceOkSpec.post enc Try.prog Try.f3 false true false false) := by
  refine returnsInHanded_of_change (C := Try.checked) own started (by kernel_rfl) Try.func3
    (ChangeSpec.witness6 (enc := enc) (C := Try.checked) false ⟨#[], #[.agg #[.int .i64 0, .slice none 0 0, .slice none 0 0, .int .i64 0, .slice none 0 0, .slice none 0 0, .int .i64 0]], []⟩ 8 (by kernel_rfl) (by kernel_rfl) (by kernel_rfl) (by kernel_rfl)) ?_
  intro W base args ds gs before hval0 hW hcnd _
  have hval : ∀ (j : Nat) t v, Try.f3.params[j]? = some t → args[j]? = some v → Value.okWide Try.prog W .any base t v := hval0
  have hW' := hW
  obtain ⟨p, q, hA0, hV, rfl, hfz, hnd⟩ := hW
  have hA : DataW.TrodAll enc Try.prog W 0 (fun _ => true) true Try.f3.params.toList args.toList ds p := hA0
  rw [Try.params3] at hA hval
  obtain ⟨v0, vs0, d0, ds0, p0, q0, hargs, rfl, rfl, h0, r0⟩ := trodAll_cons hA
  obtain ⟨rfl, rfl, rfl⟩ := trodAll_nil r0
  obtain rfl : args = #[v0] := by cases args; simp_all
  obtain ⟨rfl, rfl⟩ := trodVars_none hV
  have k0 := h0
  have lt0 : ∀ x ∈ p0, x.block < W.heap.size := by obtain ⟨m, hm⟩ := k0; exact DataW.trod_lt m _ _ _ hm
  obtain ⟨aN0, aU0, aQ0, aS0, C0, rfl, hR0⟩ := open_choice (hval 0 30 v0 rfl rfl) h0
  clear hA0 hval0
  refine (walk aN0 aU0 aQ0 aS0 C0 W hR0).mono fun e W' ⟨he, bel⟩ => ?_
  subst he
  exact ⟨_, rfl, _, _, _, [], _, [], hW', trodAll_mk1 (shut_bool Try.underlying4 _), (trodAll_cons_mk (Below.trod laidOut (by kernel_rfl) (of_decide_eq_true (by kernel_rfl)) k0 bel lt0) trodAll_mk0), rfl, bel.frame _, fun h => by cases h⟩

theorem over : Rows.fnExactChoiceOkRow.holds Try.pinned (OpenSpec.ofChange Rows.fnExactChoiceOkSpec) :=
  OpenClaim.holds_of_wide 3 Try.f3 rfl rfl rfl rfl rfl rfl rfl ⟨rfl, rfl, rfl, rfl, rfl⟩ rfl rfl rfl rfl rfl (by kernel_rfl) Try.func3 (by kernel_rfl)
    (of_decide_eq_true (by kernel_rfl)) (by unfold Func.isWrapper; first | (rw [if_pos (by decide +kernel)]; kernel_rfl) | (rw [if_neg (by decide +kernel)]; exact ⟨rfl, rfl⟩))
    (fun os started H enc _ => lifted os started H enc)

/-- the statement -/
theorem proved : Rows.FnExactChoiceOkSaid := over
end Go.Proofs.Ytapchjkiiifhdaa.fnExactChoiceOk

namespace Go.Proofs.Ytapchjkiiifhdaa
/-- the statement, under its short name -/
theorem fnExactChoiceOk_holds : Rows.FnExactChoiceOkSaid := fnExactChoiceOk.proved
#print axioms fnExactChoiceOk_holds
end Go.Proofs.Ytapchjkiiifhdaa
