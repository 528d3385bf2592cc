/- For every Kind the program's NewChoice answers as the model's NewChoice, in memory of its own, another call's answer too: the law's call returns true; no condition. -/
import Derived.Test.YtapchjkiiifhdaaMg10
import Derived.Deep.DeepCutAuto
namespace Go.Proofs.Ytapchjkiiifhdaa.fnExactNewChoice
open Go.ChangeShapes Go.WideShapes Go.ChangeAt Go.RowKit
open Go.Proofs.Ytapchjkiiifhdaa.ce Go.Proofs.Ytapchjkiiifhdaa.ro Go.Proofs.Ytapchjkiiifhdaa.rg
set_option linter.unusedVariables false

theorem own : ownKnob Try.prog.godebug = none := by kernel_rfl
theorem laidOut : laidOutB Try.prog = true := by kernel_rfl

/-! ### the walk -/
set_option maxRecDepth 100000 in
set_option maxHeartbeats 4000000 in
theorem walk (Kind : Int) (w : World)  :
    Calls Try.prog 4 #[.int .i64 Kind] w fun e w' => e = .returned (.bool true) ∧ Below w.heap.size w w' := by
  obtain ⟨c, hc⟩ := hid_ex (cpC (newC Kind))
  obtain ⟨y, hy⟩ := hid_ex (chB (newC Kind))
  have kS := fun w => specNewChoice_any Kind w
  have kI := fun w => implNewChoice_any Kind w
  unfold PostC at kS kI
  rw [hc.out, hy.out] at kS kI
  have bc0 := bare_new Kind
  rw [hc.out] at bc0
  have HS : Hid _ := kS
  have HI : Hid _ := kI
  have BC : Hid (Bare c) := bc0
  clear kS kI bc0 hc hy
  obtain ⟨mm, hmm⟩ : ∃ m : Nat, Hid (m = 1 + sk.sumLen c.S) := ⟨_, rfl⟩
  have hyy : (y != y) = false := by cases y <;> rfl
  have hm0 : ¬ ((mm : Int) < 0) := by omega
  have hme : ((mm : Int) != (mm : Int)) = false := by simp
  go_enter Try.func4, Try.ntmps4
  have mk1 : Hid True := trivial
  have mk2 : Hid True := trivial
  have mk3 : Hid True := trivial
  have mk4 : Hid True := trivial
  have mk5 : Hid True := trivial
  have mk6 : Hid True := trivial
  have mk7 : Hid True := trivial
  have mk8 : Hid True := trivial
  have mk9 : Hid True := trivial
  have mk10 : Hid True := trivial
  have mk11 : Hid True := trivial
  have mk12 : Hid True := trivial
  have mk13 : Hid True := trivial
  have mk14 : Hid True := trivial
  go_wp2_with (first | (clear mk1; go_at_call 19; refine (HS.out _).mono ?_; rintro er w1 ⟨vN1, vU1, vQ1, vS1, rfl, o1, hB1⟩; obtain ⟨⟨aN1, nN1, kN1, rfl⟩, ⟨aU1, nU1, kU1, rfl⟩, ⟨aQ1, nQ1, kQ1, rfl⟩, ⟨aS1, nS1, kS1, rfl⟩⟩ := o1.forms; have hz1 : w.heap.size ≤ w1.heap.size := hB1.size; have hB := hB1; have hzw := hB.size) | (clear mk2; refine wpList_alloc_v rfl 36 rfl _ zeroCh ?_; intro b3 w2 hb3 hwb3 hB2 c3; have hz2 : w1.heap.size ≤ w2.heap.size := hB2.size; replace o1 := o1.grow hB2; replace hB := hB.trans (hB2.mono (by omega)); replace hzw := hB.size) | (clear mk3; refine wpList_store_v rfl 36 _ _ rfl b3 [.int .i64 c.K, .slice aN1 nN1 kN1, .slice aU1 nU1 kU1, .int .i64 c.R.A, .slice aQ1 nQ1 kQ1, .slice aS1 nS1 kS1, .int .i64 c.D] rfl rfl sizeCh c3 rfl (by simp [Value.oneCell']) ?_; intro w3 hO3 c3x; have hz3 : w2.heap.size ≤ w3.heap.size := (Nat.le_of_eq hO3.1.symm); have hy3 : w3.heap.size ≤ w2.heap.size := (Nat.le_of_eq hO3.1); replace o1 := o1.below (hO3.2.2 b3 (Nat.le_refl _)) (by omega); replace hB := hB.trans (hO3.2.2 _ (by omega)); replace hzw := hB.size; clear c3; have c3 := c3x; clear c3x; obtain ⟨c30, c31, c32, c33, c34, c35, c36⟩ := cells7c c3) | (clear mk4; go_at_call 20; refine (HI.out _).mono ?_; rintro er w4 ⟨vN2, vU2, vQ2, vS2, rfl, o2, hB4⟩; obtain ⟨⟨aN2, nN2, kN2, rfl⟩, ⟨aU2, nU2, kU2, rfl⟩, ⟨aQ2, nQ2, kQ2, rfl⟩, ⟨aS2, nS2, kS2, rfl⟩⟩ := o2.forms; have hz4 : w3.heap.size ≤ w4.heap.size := hB4.size; replace o1 := o1.grow hB4; replace c3 := vblk_grow c3 hB4; replace hB := hB.trans (hB4.mono (by omega)); replace hzw := hB.size; clear c30 c31 c32 c33 c34 c35 c36; obtain ⟨c30, c31, c32, c33, c34, c35, c36⟩ := cells7c c3) | (clear mk5; refine wpList_alloc_v rfl 36 rfl _ zeroCh ?_; intro b5 w5 hb5 hwb5 hB5 c5; have hz5 : w4.heap.size ≤ w5.heap.size := hB5.size; replace o1 := o1.grow hB5; replace o2 := o2.grow hB5; replace c3 := vblk_grow c3 hB5; replace hB := hB.trans (hB5.mono (by omega)); replace hzw := hB.size; clear c30 c31 c32 c33 c34 c35 c36; obtain ⟨c30, c31, c32, c33, c34, c35, c36⟩ := cells7c c3) | (clear mk6; refine wpList_store_v rfl 36 _ _ rfl b5 [.int .i64 c.K, .slice aN2 nN2 kN2, .slice aU2 nU2 kU2, .int .i64 c.R.A, .slice aQ2 nQ2 kQ2, .slice aS2 nS2 kS2, .int .i64 c.D] rfl rfl sizeCh c5 rfl (by simp [Value.oneCell']) ?_; intro w6 hO6 c5x; have hz6 : w5.heap.size ≤ w6.heap.size := (Nat.le_of_eq hO6.1.symm); have hy6 : w6.heap.size ≤ w5.heap.size := (Nat.le_of_eq hO6.1); replace o1 := o1.below (hO6.2.2 b5 (Nat.le_refl _)) (by omega); replace o2 := o2.below (hO6.2.2 b5 (Nat.le_refl _)) (by omega); replace c3 := vblk_only c3 hO6 (by omega); replace hB := hB.trans (hO6.2.2 _ (by omega)); replace hzw := hB.size; clear c30 c31 c32 c33 c34 c35 c36; obtain ⟨c30, c31, c32, c33, c34, c35, c36⟩ := cells7c c3; clear c5; have c5 := c5x; clear c5x; obtain ⟨c50, c51, c52, c53, c54, c55, c56⟩ := cells7c c5) | (clear mk7; go_at_call 18; refine (eqChoice_any c _ _ _ _ _ _ _ _ _ (BC.out.rd o2) (BC.out.rd o1)).mono ?_; rintro er w7 ⟨rfl, hB7⟩; have hz7 : w6.heap.size ≤ w7.heap.size := hB7.size; replace o1 := o1.grow hB7; replace o2 := o2.grow hB7; replace c3 := vblk_grow c3 hB7; replace c5 := vblk_grow c5 hB7; replace hB := hB.trans (hB7.mono (by omega)); replace hzw := hB.size; clear c30 c31 c32 c33 c34 c35 c36; obtain ⟨c30, c31, c32, c33, c34, c35, c36⟩ := cells7c c3; clear c50 c51 c52 c53 c54 c55 c56; obtain ⟨c50, c51, c52, c53, c54, c55, c56⟩ := cells7c c5) | (clear mk8; go_at_call 21; refine (markBare_any c BC.out mm hmm _ _ _ _ _ _ _ o2).mono ?_; rintro er w8 ⟨rfl, p2, hM8⟩; clear o2; have hz8 : w7.heap.size ≤ w8.heap.size := hM8.size; replace o1 := o1.within hM8 (by omega); replace c3 := c3.of (hM8.block _ c3.lt (by omega)); replace c5 := c5.of (hM8.block _ c5.lt (by omega)); replace hB := hB.trans (hM8.below (by omega) (by omega)); replace hzw := hB.size; clear c30 c31 c32 c33 c34 c35 c36; obtain ⟨c30, c31, c32, c33, c34, c35, c36⟩ := cells7c c3; clear c50 c51 c52 c53 c54 c55 c56; obtain ⟨c50, c51, c52, c53, c54, c55, c56⟩ := cells7c c5) | (clear mk9; go_at_call 22; refine (heldBare_any c BC.out mm hmm _ _ _ _ _ _ _ p2).mono ?_; rintro er w9 ⟨rfl, hB9⟩; have hz9 : w8.heap.size ≤ w9.heap.size := hB9.size; replace o1 := o1.grow hB9; replace p2 := p2.grow hB9; replace c3 := vblk_grow c3 hB9; replace c5 := vblk_grow c5 hB9; replace hB := hB.trans (hB9.mono (by omega)); replace hzw := hB.size; clear c30 c31 c32 c33 c34 c35 c36; obtain ⟨c30, c31, c32, c33, c34, c35, c36⟩ := cells7c c3; clear c50 c51 c52 c53 c54 c55 c56; obtain ⟨c50, c51, c52, c53, c54, c55, c56⟩ := cells7c c5) | (clear mk10; go_at_call 20; refine (HI.out _).mono ?_; rintro er w10 ⟨vN3, vU3, vQ3, vS3, rfl, o3, hB10⟩; obtain ⟨⟨aN3, nN3, kN3, rfl⟩, ⟨aU3, nU3, kU3, rfl⟩, ⟨aQ3, nQ3, kQ3, rfl⟩, ⟨aS3, nS3, kS3, rfl⟩⟩ := o3.forms; have hz10 : w9.heap.size ≤ w10.heap.size := hB10.size; replace o1 := o1.grow hB10; replace p2 := p2.grow hB10; replace c3 := vblk_grow c3 hB10; replace c5 := vblk_grow c5 hB10; replace hB := hB.trans (hB10.mono (by omega)); replace hzw := hB.size; clear c30 c31 c32 c33 c34 c35 c36; obtain ⟨c30, c31, c32, c33, c34, c35, c36⟩ := cells7c c3; clear c50 c51 c52 c53 c54 c55 c56; obtain ⟨c50, c51, c52, c53, c54, c55, c56⟩ := cells7c c5) | (clear mk11; refine wpList_alloc_v rfl 36 rfl _ zeroCh ?_; intro b9 w11 hb9 hwb9 hB11 c9; have hz11 : w10.heap.size ≤ w11.heap.size := hB11.size; replace o1 := o1.grow hB11; replace p2 := p2.grow hB11; replace o3 := o3.grow hB11; replace c3 := vblk_grow c3 hB11; replace c5 := vblk_grow c5 hB11; replace hB := hB.trans (hB11.mono (by omega)); replace hzw := hB.size; clear c30 c31 c32 c33 c34 c35 c36; obtain ⟨c30, c31, c32, c33, c34, c35, c36⟩ := cells7c c3; clear c50 c51 c52 c53 c54 c55 c56; obtain ⟨c50, c51, c52, c53, c54, c55, c56⟩ := cells7c c5) | (clear mk12; refine wpList_store_v rfl 36 _ _ rfl b9 [.int .i64 c.K, .slice aN3 nN3 kN3, .slice aU3 nU3 kU3, .int .i64 c.R.A, .slice aQ3 nQ3 kQ3, .slice aS3 nS3 kS3, .int .i64 c.D] rfl rfl sizeCh c9 rfl (by simp [Value.oneCell']) ?_; intro w12 hO12 c9x; have hz12 : w11.heap.size ≤ w12.heap.size := (Nat.le_of_eq hO12.1.symm); have hy12 : w12.heap.size ≤ w11.heap.size := (Nat.le_of_eq hO12.1); replace o1 := o1.below (hO12.2.2 b9 (Nat.le_refl _)) (by omega); replace p2 := p2.below (hO12.2.2 b9 (Nat.le_refl _)) (by omega); replace o3 := o3.below (hO12.2.2 b9 (Nat.le_refl _)) (by omega); replace c3 := vblk_only c3 hO12 (by omega); replace c5 := vblk_only c5 hO12 (by omega); replace hB := hB.trans (hO12.2.2 _ (by omega)); replace hzw := hB.size; clear c30 c31 c32 c33 c34 c35 c36; obtain ⟨c30, c31, c32, c33, c34, c35, c36⟩ := cells7c c3; clear c50 c51 c52 c53 c54 c55 c56; obtain ⟨c50, c51, c52, c53, c54, c55, c56⟩ := cells7c c5; clear c9; have c9 := c9x; clear c9x; obtain ⟨c90, c91, c92, c93, c94, c95, c96⟩ := cells7c c9) | (clear mk13; go_at_call 18; refine (eqChoice_any c _ _ _ _ _ _ _ _ _ (BC.out.rd o3) (BC.out.rd o1)).mono ?_; rintro er w13 ⟨rfl, hB13⟩; have hz13 : w12.heap.size ≤ w13.heap.size := hB13.size; replace o1 := o1.grow hB13; replace p2 := p2.grow hB13; replace o3 := o3.grow hB13; replace c3 := vblk_grow c3 hB13; replace c5 := vblk_grow c5 hB13; replace c9 := vblk_grow c9 hB13; replace hB := hB.trans (hB13.mono (by omega)); replace hzw := hB.size; clear c30 c31 c32 c33 c34 c35 c36; obtain ⟨c30, c31, c32, c33, c34, c35, c36⟩ := cells7c c3; clear c50 c51 c52 c53 c54 c55 c56; obtain ⟨c50, c51, c52, c53, c54, c55, c56⟩ := cells7c c5; clear c90 c91 c92 c93 c94 c95 c96; obtain ⟨c90, c91, c92, c93, c94, c95, c96⟩ := cells7c c9) | (clear mk14; go_at_call 22; refine (heldBare_any c BC.out mm hmm _ _ _ _ _ _ _ p2).mono ?_; rintro er w14 ⟨rfl, hB14⟩; have hz14 : w13.heap.size ≤ w14.heap.size := hB14.size; replace o1 := o1.grow hB14; replace p2 := p2.grow hB14; replace o3 := o3.grow hB14; replace c3 := vblk_grow c3 hB14; replace c5 := vblk_grow c5 hB14; replace c9 := vblk_grow c9 hB14; replace hB := hB.trans (hB14.mono (by omega)); replace hzw := hB.size; clear c30 c31 c32 c33 c34 c35 c36; obtain ⟨c30, c31, c32, c33, c34, c35, c36⟩ := cells7c c3; clear c50 c51 c52 c53 c54 c55 c56; obtain ⟨c50, c51, c52, c53, c54, c55, c56⟩ := cells7c c5; clear c90 c91 c92 c93 c94 c95 c96; obtain ⟨c90, c91, c92, c93, c94, c95, c96⟩ := cells7c c9) | (fail))
  go_ret
  exact ⟨rfl, hB⟩


/-! ### the row, by the frame -/
set_option maxRecDepth 100000 in
theorem lifted (os : Os) (started : os.Started) (H : Type) (enc : TypeId × Value → H) :
    ReturnsInHanded {} Try.checked os 4 .any (Rows.fnExactNewChoiceSpec.pre6 enc Try.prog Try.f4 Rows.fnExactNewChoiceRow.domain false) (Rows.fnExactNewChoiceSpec.post enc Try.prog Try.f4 false true false false) := by
  refine returnsInHanded_of_change (C := Try.checked) own started (by kernel_rfl) Try.func4
    (ChangeSpec.witness6 (enc := enc) (C := Try.checked) false ⟨#[], #[.int .i64 0], []⟩ 8 (by kernel_rfl) (by kernel_rfl) (by kernel_rfl) (by kernel_rfl)) ?_
  intro W base args ds gs before hval0 hW hcnd _
  have hval : ∀ (j : Nat) t v, Try.f4.params[j]? = some t → args[j]? = some v → Value.okWide Try.prog W .any base t v := hval0
  have hW' := hW
  obtain ⟨p, q, hA0, hV, rfl, hfz, hnd⟩ := hW
  have hA : DataW.TrodAll enc Try.prog W 0 (fun _ => true) true Try.f4.params.toList args.toList ds p := hA0
  rw [Try.params4] at hA hval
  obtain ⟨v0, vs0, d0, ds0, p0, q0, hargs, rfl, rfl, h0, r0⟩ := trodAll_cons hA
  obtain ⟨rfl, rfl, rfl⟩ := trodAll_nil r0
  obtain rfl : args = #[v0] := by cases args; simp_all
  obtain ⟨rfl, rfl⟩ := trodVars_none hV
  obtain ⟨a0, rfl, rfl, rfl, ws0⟩ := open_int Try.underlying2 (hval 0 2 v0 rfl rfl) h0
  clear hA0 hval0
  refine (walk a0 W ).mono fun e W' ⟨he, bel⟩ => ?_
  subst he
  exact ⟨_, rfl, _, _, _, [], _, [], hW', trodAll_mk1 (shut_bool Try.underlying4 _), (trodAll_cons_mk (shut_int Try.underlying2 ws0) trodAll_mk0), rfl, bel.frame _, fun h => by cases h⟩

theorem over : Rows.fnExactNewChoiceRow.holds Try.pinned (OpenSpec.ofChange Rows.fnExactNewChoiceSpec) :=
  OpenClaim.holds_of_wide 4 Try.f4 rfl rfl rfl rfl rfl rfl rfl ⟨rfl, rfl, rfl, rfl, rfl⟩ rfl rfl rfl rfl rfl (by kernel_rfl) Try.func4 (by kernel_rfl)
    (of_decide_eq_true (by kernel_rfl)) (by unfold Func.isWrapper; first | (rw [if_pos (by decide +kernel)]; kernel_rfl) | (rw [if_neg (by decide +kernel)]; exact ⟨rfl, rfl⟩))
    (fun os started H enc _ => lifted os started H enc)

/-- the statement -/
theorem proved : Rows.FnExactNewChoiceSaid := over
end Go.Proofs.Ytapchjkiiifhdaa.fnExactNewChoice

namespace Go.Proofs.Ytapchjkiiifhdaa
/-- the statement, under its short name -/
theorem fnExactNewChoice_holds : Rows.FnExactNewChoiceSaid := fnExactNewChoice.proved
#print axioms fnExactNewChoice_holds
end Go.Proofs.Ytapchjkiiifhdaa
