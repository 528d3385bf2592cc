/- The program's NewSketch answers as the model's NewSketch, and its answer owns its memory, behind another call too: the law's call returns true; no condition. -/
import Derived.Test.YtgdoclaifnnpgaaLwOpen
import Derived.Test.YtgdoclaifnnpgaaLw4
namespace Go.Proofs.Ytgdoclaifnnpgaa.fnExactNewSketch
open Go.ChangeShapes Go.WideShapes Go.ChangeAt Go.RowKit
open Go.ChangeMaps (open_string shut_string)
open Go.Proofs.Ytgdoclaifnnpgaa.sk
set_option linter.unusedVariables false

theorem own : ownKnob Try.prog.godebug = none := by kernel_rfl
theorem laidOut : laidOutB Try.prog = true := by kernel_rfl

/-! ### the walk -/
set_option maxHeartbeats 4000000 in
theorem walk  (w : World)  :
    Calls Try.prog 4 #[] w fun e w' => e = .returned (.bool true) ∧ Below w.heap.size w w' := by
  obtain ⟨sg, hsg⟩ : ∃ sg : Nat, Hid (sumLen zeros = sg) := ⟨_, rfl⟩
  have hsn : ¬ (1 + (sg : Int) < 0) := by omega
  have hse : ((1 + (sg : Int)) != (1 + (sg : Int))) = false := by simp
  have m1 : Hid True := trivial
  have m2 : Hid True := trivial
  have m3 : Hid True := trivial
  have m4 : Hid True := trivial
  have m5 : Hid True := trivial
  have m6 : Hid True := trivial
  have m7 : Hid True := trivial
  have m8 : Hid True := trivial
  have m9 : Hid True := trivial
  have m10 : Hid True := trivial
  have m11 : Hid True := trivial
  have m12 : Hid True := trivial
  have m13 : Hid True := trivial
  have m14 : Hid True := trivial
  go_enter Try.func4, Try.ntmps4
  go_wp2_with (first | (clear m1; go_at_call 15; refine (specNewSketch_any _).mono ?_; rintro e w1 ⟨vw, rfl, how, hB1⟩; have hz1 := hB1.size; have hB := hB1; obtain ⟨wa, wn, wc, rfl⟩ := how.form) | (clear m2; refine wpList_alloc_v rfl 27 rfl _ zero27 ?_; intro bw w2 hb2 hw2 hB2 hVw; have hz2 := hB2.size; replace how := how.below hB2 (by omega); replace hB := hB.trans (hB2.mono (by omega))) | (clear m3; refine wpList_store_v rfl 27 _ _ rfl bw [.slice wa wn wc, .int .i64 0] rfl rfl size27 hVw rfl (by simp [Value.oneCell']) ?_; intro w3 hO3 hVwn; have hz3 := hO3.1; replace how := how.keep (w' := w3) (fun k g1 g2 => hO3.2.1 k (by omega)) (by omega); replace hB := hB.trans (hO3.2.2 _ (by omega)); clear hVw; have hVw := hVwn; clear hVwn; have hVwc0 := hVw.cell 0 (by simp); have hVwc1 := hVw.cell 1 (by simp); simp only [List.getElem_cons_zero, List.getElem_cons_succ] at hVwc0 hVwc1) | (clear m4; go_at_call 16; refine (implNewSketch_any _).mono ?_; rintro e w4 ⟨vg, rfl, hog, hB4⟩; have hz4 := hB4.size; replace hVw := hVw.below hB4 (by omega); clear hVwc0 hVwc1; have hVwc0 := hVw.cell 0 (by simp); have hVwc1 := hVw.cell 1 (by simp); simp only [List.getElem_cons_zero, List.getElem_cons_succ] at hVwc0 hVwc1; replace how := how.below hB4 (by omega); replace hB := hB.trans (hB4.mono (by omega)); obtain ⟨ga, gn, gc, rfl⟩ := hog.form) | (clear m5; refine wpList_alloc_v rfl 27 rfl _ zero27 ?_; intro bg w5 hb5 hw5 hB5 hVg; have hz5 := hB5.size; replace hVw := hVw.below hB5 (by omega); clear hVwc0 hVwc1; have hVwc0 := hVw.cell 0 (by simp); have hVwc1 := hVw.cell 1 (by simp); simp only [List.getElem_cons_zero, List.getElem_cons_succ] at hVwc0 hVwc1; replace how := how.below hB5 (by omega); replace hog := hog.below hB5 (by omega); replace hB := hB.trans (hB5.mono (by omega))) | (clear m6; refine wpList_store_v rfl 27 _ _ rfl bg [.slice ga gn gc, .int .i64 0] rfl rfl size27 hVg rfl (by simp [Value.oneCell']) ?_; intro w6 hO6 hVgn; have hz6 := hO6.1; replace hVw := hVw.of (hO6.2.1 _ (by omega)); clear hVwc0 hVwc1; have hVwc0 := hVw.cell 0 (by simp); have hVwc1 := hVw.cell 1 (by simp); simp only [List.getElem_cons_zero, List.getElem_cons_succ] at hVwc0 hVwc1; replace how := how.keep (w' := w6) (fun k g1 g2 => hO6.2.1 k (by omega)) (by omega); replace hog := hog.keep (w' := w6) (fun k g1 g2 => hO6.2.1 k (by omega)) (by omega); replace hB := hB.trans (hO6.2.2 _ (by omega)); clear hVg; have hVg := hVgn; clear hVgn; have hVgc0 := hVg.cell 0 (by simp); have hVgc1 := hVg.cell 1 (by simp); simp only [List.getElem_cons_zero, List.getElem_cons_succ] at hVgc0 hVgc1) | (clear m7; go_at_call 14; refine (eqSketch_any zeros 0 _ _ _ w3.heap.size w4.heap.size w.heap.size w1.heap.size (by omega) (by omega) hog.rd how.rd).mono ?_; rintro e w7 ⟨rfl, hB7⟩; have hz7 := hB7.size; replace hVw := hVw.below hB7 (by omega); clear hVwc0 hVwc1; have hVwc0 := hVw.cell 0 (by simp); have hVwc1 := hVw.cell 1 (by simp); simp only [List.getElem_cons_zero, List.getElem_cons_succ] at hVwc0 hVwc1; replace hVg := hVg.below hB7 (by omega); clear hVgc0 hVgc1; have hVgc0 := hVg.cell 0 (by simp); have hVgc1 := hVg.cell 1 (by simp); simp only [List.getElem_cons_zero, List.getElem_cons_succ] at hVgc0 hVgc1; replace how := how.below hB7 (by omega); replace hog := hog.below hB7 (by omega); replace hB := hB.trans (hB7.mono (by omega))) | (clear m8; go_at_call 17; refine (markSketch_any zeros zeros_modest _ 0 _ w3.heap.size w4.heap.size hog (by omega)).mono ?_; rintro e w8 ⟨he, hog8, hM8⟩; have hz8 := hM8.size; replace hVw := hVw.of (hM8.block _ (by omega) (by omega)); clear hVwc0 hVwc1; have hVwc0 := hVw.cell 0 (by simp); have hVwc1 := hVw.cell 1 (by simp); simp only [List.getElem_cons_zero, List.getElem_cons_succ] at hVwc0 hVwc1; replace hVg := hVg.of (hM8.block _ (by omega) (by omega)); clear hVgc0 hVgc1; have hVgc0 := hVg.cell 0 (by simp); have hVgc1 := hVg.cell 1 (by simp); simp only [List.getElem_cons_zero, List.getElem_cons_succ] at hVgc0 hVgc1; replace how := how.keep (w' := w8) (fun k g1 g2 => hM8.block k (by omega) (by omega)) hM8.size; replace hB := hB.trans (hM8.below (by omega) (by omega)); rw [hsg.out] at he; subst he; clear hog; have hog := hog8; clear hog8) | (clear m9; go_at_call 18; refine (heldSketch_any zeros zeros_modest _ (0) _ w3.heap.size w4.heap.size (by omega) hog.rd).mono ?_; rintro e w9 ⟨he, hB9⟩; have hz9 := hB9.size; replace hVw := hVw.below hB9 (by omega); clear hVwc0 hVwc1; have hVwc0 := hVw.cell 0 (by simp); have hVwc1 := hVw.cell 1 (by simp); simp only [List.getElem_cons_zero, List.getElem_cons_succ] at hVwc0 hVwc1; replace hVg := hVg.below hB9 (by omega); clear hVgc0 hVgc1; have hVgc0 := hVg.cell 0 (by simp); have hVgc1 := hVg.cell 1 (by simp); simp only [List.getElem_cons_zero, List.getElem_cons_succ] at hVgc0 hVgc1; replace how := how.below hB9 (by omega); replace hog := hog.below hB9 (by omega); replace hB := hB.trans (hB9.mono (by omega)); rw [hsg.out] at he; subst he) | (clear m10; go_at_call 16; refine (implNewSketch_any _).mono ?_; rintro e w10 ⟨vh, rfl, hoh, hB10⟩; have hz10 := hB10.size; replace hVw := hVw.below hB10 (by omega); clear hVwc0 hVwc1; have hVwc0 := hVw.cell 0 (by simp); have hVwc1 := hVw.cell 1 (by simp); simp only [List.getElem_cons_zero, List.getElem_cons_succ] at hVwc0 hVwc1; replace hVg := hVg.below hB10 (by omega); clear hVgc0 hVgc1; have hVgc0 := hVg.cell 0 (by simp); have hVgc1 := hVg.cell 1 (by simp); simp only [List.getElem_cons_zero, List.getElem_cons_succ] at hVgc0 hVgc1; replace how := how.below hB10 (by omega); replace hog := hog.below hB10 (by omega); replace hB := hB.trans (hB10.mono (by omega)); obtain ⟨ha, hn, hc, rfl⟩ := hoh.form) | (clear m11; refine wpList_alloc_v rfl 27 rfl _ zero27 ?_; intro bh w11 hb11 hw11 hB11 hVh; have hz11 := hB11.size; replace hVw := hVw.below hB11 (by omega); clear hVwc0 hVwc1; have hVwc0 := hVw.cell 0 (by simp); have hVwc1 := hVw.cell 1 (by simp); simp only [List.getElem_cons_zero, List.getElem_cons_succ] at hVwc0 hVwc1; replace hVg := hVg.below hB11 (by omega); clear hVgc0 hVgc1; have hVgc0 := hVg.cell 0 (by simp); have hVgc1 := hVg.cell 1 (by simp); simp only [List.getElem_cons_zero, List.getElem_cons_succ] at hVgc0 hVgc1; replace how := how.below hB11 (by omega); replace hog := hog.below hB11 (by omega); replace hoh := hoh.below hB11 (by omega); replace hB := hB.trans (hB11.mono (by omega))) | (clear m12; refine wpList_store_v rfl 27 _ _ rfl bh [.slice ha hn hc, .int .i64 0] rfl rfl size27 hVh rfl (by simp [Value.oneCell']) ?_; intro w12 hO12 hVhn; have hz12 := hO12.1; replace hVw := hVw.of (hO12.2.1 _ (by omega)); clear hVwc0 hVwc1; have hVwc0 := hVw.cell 0 (by simp); have hVwc1 := hVw.cell 1 (by simp); simp only [List.getElem_cons_zero, List.getElem_cons_succ] at hVwc0 hVwc1; replace hVg := hVg.of (hO12.2.1 _ (by omega)); clear hVgc0 hVgc1; have hVgc0 := hVg.cell 0 (by simp); have hVgc1 := hVg.cell 1 (by simp); simp only [List.getElem_cons_zero, List.getElem_cons_succ] at hVgc0 hVgc1; replace how := how.keep (w' := w12) (fun k g1 g2 => hO12.2.1 k (by omega)) (by omega); replace hog := hog.keep (w' := w12) (fun k g1 g2 => hO12.2.1 k (by omega)) (by omega); replace hoh := hoh.keep (w' := w12) (fun k g1 g2 => hO12.2.1 k (by omega)) (by omega); replace hB := hB.trans (hO12.2.2 _ (by omega)); clear hVh; have hVh := hVhn; clear hVhn; have hVhc0 := hVh.cell 0 (by simp); have hVhc1 := hVh.cell 1 (by simp); simp only [List.getElem_cons_zero, List.getElem_cons_succ] at hVhc0 hVhc1) | (clear m13; go_at_call 14; refine (eqSketch_any zeros 0 _ _ _ w9.heap.size w10.heap.size w.heap.size w1.heap.size (by omega) (by omega) hoh.rd how.rd).mono ?_; rintro e w13 ⟨rfl, hB13⟩; have hz13 := hB13.size; replace hVw := hVw.below hB13 (by omega); clear hVwc0 hVwc1; have hVwc0 := hVw.cell 0 (by simp); have hVwc1 := hVw.cell 1 (by simp); simp only [List.getElem_cons_zero, List.getElem_cons_succ] at hVwc0 hVwc1; replace hVg := hVg.below hB13 (by omega); clear hVgc0 hVgc1; have hVgc0 := hVg.cell 0 (by simp); have hVgc1 := hVg.cell 1 (by simp); simp only [List.getElem_cons_zero, List.getElem_cons_succ] at hVgc0 hVgc1; replace hVh := hVh.below hB13 (by omega); clear hVhc0 hVhc1; have hVhc0 := hVh.cell 0 (by simp); have hVhc1 := hVh.cell 1 (by simp); simp only [List.getElem_cons_zero, List.getElem_cons_succ] at hVhc0 hVhc1; replace how := how.below hB13 (by omega); replace hog := hog.below hB13 (by omega); replace hoh := hoh.below hB13 (by omega); replace hB := hB.trans (hB13.mono (by omega))) | (clear m14; go_at_call 18; refine (heldSketch_any zeros zeros_modest _ (0) _ w3.heap.size w4.heap.size (by omega) hog.rd).mono ?_; rintro e w14 ⟨he, hB14⟩; have hz14 := hB14.size; replace hVw := hVw.below hB14 (by omega); clear hVwc0 hVwc1; have hVwc0 := hVw.cell 0 (by simp); have hVwc1 := hVw.cell 1 (by simp); simp only [List.getElem_cons_zero, List.getElem_cons_succ] at hVwc0 hVwc1; replace hVg := hVg.below hB14 (by omega); clear hVgc0 hVgc1; have hVgc0 := hVg.cell 0 (by simp); have hVgc1 := hVg.cell 1 (by simp); simp only [List.getElem_cons_zero, List.getElem_cons_succ] at hVgc0 hVgc1; replace hVh := hVh.below hB14 (by omega); clear hVhc0 hVhc1; have hVhc0 := hVh.cell 0 (by simp); have hVhc1 := hVh.cell 1 (by simp); simp only [List.getElem_cons_zero, List.getElem_cons_succ] at hVhc0 hVhc1; replace how := how.below hB14 (by omega); replace hog := hog.below hB14 (by omega); replace hoh := hoh.below hB14 (by omega); replace hB := hB.trans (hB14.mono (by omega)); rw [hsg.out] at he; subst he))
  go_ret
  exact ⟨rfl, hB⟩


/-! ### the row, by the frame -/
set_option maxRecDepth 100000 in
theorem lifted (os : Os) (started : os.Started) (H : Type) (enc : TypeId × Value → H) :
    ReturnsInHanded {} Try.checked os 4 .any (Rows.fnExactNewSketchSpec.pre6 enc Try.prog Try.f4 Rows.fnExactNewSketchRow.domain false) (Rows.fnExactNewSketchSpec.post enc Try.prog Try.f4 false true false false) := by
  refine returnsInHanded_of_change (C := Try.checked) own started (by kernel_rfl) Try.func4
    (ChangeSpec.witness6 (enc := enc) (C := Try.checked) false ⟨#[], #[], []⟩ 8 (by kernel_rfl) (by kernel_rfl) (by kernel_rfl) (by kernel_rfl)) ?_
  intro W base args ds gs before hval0 hW hcnd _
  have hval : ∀ (j : Nat) t v, Try.f4.params[j]? = some t → args[j]? = some v → Value.okWide Try.prog W .any base t v := hval0
  have hW' := hW
  obtain ⟨p, q, hA0, hV, rfl, hfz, hnd⟩ := hW
  have hA : DataW.TrodAll enc Try.prog W 0 (fun _ => true) true Try.f4.params.toList args.toList ds p := hA0
  rw [Try.params4] at hA hval
  obtain ⟨hargs, rfl, rfl⟩ := trodAll_nil hA
  obtain rfl : args = #[] := by cases args; simp_all
  obtain ⟨rfl, rfl⟩ := trodVars_none hV
  clear hA0 hval0
  refine (walk  W ).mono fun e W' ⟨he, bel⟩ => ?_
  subst he
  exact ⟨_, rfl, _, _, _, [], _, [], hW', trodAll_mk1 (shut_bool Try.underlying4 _), trodAll_mk0, rfl, bel.frame _, fun h => by cases h⟩

theorem over : Rows.fnExactNewSketchRow.holds Try.pinned (OpenSpec.ofChange Rows.fnExactNewSketchSpec) :=
  OpenClaim.holds_of_wide 4 Try.f4 rfl rfl rfl rfl rfl rfl rfl ⟨rfl, rfl, rfl, rfl, rfl⟩ rfl rfl rfl rfl rfl (by kernel_rfl) Try.func4 (by kernel_rfl)
    (of_decide_eq_true (by kernel_rfl)) (by unfold Func.isWrapper; first | (rw [if_pos (by decide +kernel)]; kernel_rfl) | (rw [if_neg (by decide +kernel)]; exact ⟨rfl, rfl⟩))
    (fun os started H enc _ => lifted os started H enc)

/-- the statement -/
theorem proved : Rows.FnExactNewSketchSaid := over
end Go.Proofs.Ytgdoclaifnnpgaa.fnExactNewSketch

namespace Go.Proofs.Ytgdoclaifnnpgaa
/-- the statement, under its short name -/
theorem fnExactNewSketch_holds : Rows.FnExactNewSketchSaid := fnExactNewSketch.proved
#print axioms fnExactNewSketch_holds
end Go.Proofs.Ytgdoclaifnnpgaa
