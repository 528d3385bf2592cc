/- The program's NewHeap answers as the model's NewHeap, and its answer owns its memory, behind another call too: the law's call returns true; no condition. -/
import Derived.Test.YtpkldmmabgnhoaaClOpen
namespace Go.Proofs.Ytpkldmmabgnhoaa.fnExactNewHeap
open Go.ChangeShapes Go.WideShapes Go.ChangeAt Go.RowKit
open Go.Proofs.Ytpkldmmabgnhoaa.ce
set_option linter.unusedVariables false

theorem own : ownKnob Try.prog.godebug = none := by kernel_rfl
theorem laidOut : laidOutB Try.prog = true := by kernel_rfl

/-! ### the walk -/
set_option maxRecDepth 100000 in
set_option maxHeartbeats 4000000 in
theorem walk  (w : World)  :
    Calls Try.prog 4 #[] w fun e w' => e = .returned (.bool true) ∧ Below w.heap.size w w' := by
  have m1 : Hid True := trivial
  have m2 : Hid True := trivial
  have m3 : Hid True := trivial
  have m4 : Hid True := trivial
  have m5 : Hid True := trivial
  have m6 : Hid True := trivial
  have m7 : Hid True := trivial
  have m8 : Hid True := trivial
  go_enter Try.func4, Try.ntmps4
  go_wp2_with (first | (clear m1; go_at_call 14; refine (specNewHeap_any _).mono ?_; rintro e w1 ⟨vw, rfl, how, hB1⟩; have hz1 : w.heap.size ≤ w1.heap.size := hB1.size; have hB := hB1; have hzw := hB.size) | (clear m2; go_at_call 15; refine (implNewHeap_any _).mono ?_; rintro e w2 ⟨vg, rfl, hog, hB2⟩; have hz2 : w1.heap.size ≤ w2.heap.size := hB2.size; replace how := how.below hB2 (by omega); replace hB := hB.trans (hB2.mono (by omega)); replace hzw := hB.size) | (clear m3; go_at_call 13; refine (eqCells_any [c0] _ _ w2.heap.size w1.heap.size _ (by omega) (by omega) hog.rd how.rd).mono ?_; rintro e w3 ⟨rfl, hB3⟩; have hz3 : w2.heap.size ≤ w3.heap.size := hB3.size; replace how := how.below hB3 (by omega); replace hog := hog.below hB3 (by omega); replace hB := hB.trans (hB3.mono (by omega)); replace hzw := hB.size) | (clear m4; go_at_call 16; refine (markCells_any [c0] _ w1.heap.size w2.heap.size _ hog (by simp)).mono ?_; rintro e w4 ⟨rfl, hog4, hM4⟩; have hz4 : w3.heap.size ≤ w4.heap.size := hM4.size; replace how := how.keep (w' := w4) (fun k g1 g2 => hM4.block k (by omega) (by omega)); replace hB := hB.trans (hM4.below (by omega) (by omega)); replace hzw := hB.size; clear hog; have hog := hog4; clear hog4) | (clear m5; go_at_call 17; refine (heldCells_any [c0].length _ w2.heap.size _ hog.rd (by simp)).mono ?_; rintro e wq ⟨rfl, hq⟩; subst wq) | (clear m6; go_at_call 15; refine (implNewHeap_any _).mono ?_; rintro e w5 ⟨vh, rfl, hoh, hB5⟩; have hz5 : w4.heap.size ≤ w5.heap.size := hB5.size; replace how := how.below hB5 (by omega); replace hog := hog.below hB5 (by omega); replace hB := hB.trans (hB5.mono (by omega)); replace hzw := hB.size) | (clear m7; go_at_call 13; refine (eqCells_any [c0] _ _ w5.heap.size w1.heap.size _ (by omega) (by omega) hoh.rd how.rd).mono ?_; rintro e w6 ⟨rfl, hB6⟩; have hz6 : w5.heap.size ≤ w6.heap.size := hB6.size; replace how := how.below hB6 (by omega); replace hog := hog.below hB6 (by omega); replace hoh := hoh.below hB6 (by omega); replace hB := hB.trans (hB6.mono (by omega)); replace hzw := hB.size) | (clear m8; go_at_call 17; refine (heldCells_any [c0].length _ w2.heap.size _ hog.rd (by simp)).mono ?_; rintro e wq ⟨rfl, hq⟩; subst wq) | (fail))
  go_ret
  exact ⟨rfl, hB⟩


/-! ### the row, by the frame -/
set_option maxRecDepth 100000 in
theorem lifted (os : Os) (started : os.Started) (H : Type) (enc : TypeId × Value → H) :
    ReturnsInHanded {} Try.checked os 4 .any (Rows.fnExactNewHeapSpec.pre6 enc Try.prog Try.f4 Rows.fnExactNewHeapRow.domain false) (Rows.fnExactNewHeapSpec.post enc Try.prog Try.f4 false true false false) := by
  refine returnsInHanded_of_change (C := Try.checked) own started (by kernel_rfl) Try.func4
    (ChangeSpec.witness6 (enc := enc) (C := Try.checked) false ⟨#[], #[], []⟩ 8 (by kernel_rfl) (by kernel_rfl) (by kernel_rfl) (by kernel_rfl)) ?_
  intro W base args ds gs before hval0 hW hcnd _
  have hval : ∀ (j : Nat) t v, Try.f4.params[j]? = some t → args[j]? = some v → Value.okWide Try.prog W .any base t v := hval0
  have hW' := hW
  obtain ⟨p, q, hA0, hV, rfl, hfz, hnd⟩ := hW
  have hA : DataW.TrodAll enc Try.prog W 0 (fun _ => true) true Try.f4.params.toList args.toList ds p := hA0
  rw [Try.params4] at hA hval
  obtain ⟨hargs, rfl, rfl⟩ := trodAll_nil hA
  obtain rfl : args = #[] := by cases args; simp_all
  obtain ⟨rfl, rfl⟩ := trodVars_none hV
  clear hA0 hval0
  refine (walk  W ).mono fun e W' ⟨he, bel⟩ => ?_
  subst he
  exact ⟨_, rfl, _, _, _, [], _, [], hW', trodAll_mk1 (shut_bool Try.underlying4 _), trodAll_mk0, rfl, bel.frame _, fun h => by cases h⟩

theorem over : Rows.fnExactNewHeapRow.holds Try.pinned (OpenSpec.ofChange Rows.fnExactNewHeapSpec) :=
  OpenClaim.holds_of_wide 4 Try.f4 rfl rfl rfl rfl rfl rfl rfl ⟨rfl, rfl, rfl, rfl, rfl⟩ rfl rfl rfl rfl rfl (by kernel_rfl) Try.func4 (by kernel_rfl)
    (of_decide_eq_true (by kernel_rfl)) (by unfold Func.isWrapper; first | (rw [if_pos (by decide +kernel)]; kernel_rfl) | (rw [if_neg (by decide +kernel)]; exact ⟨rfl, rfl⟩))
    (fun os started H enc _ => lifted os started H enc)

/-- the statement -/
theorem proved : Rows.FnExactNewHeapSaid := over
end Go.Proofs.Ytpkldmmabgnhoaa.fnExactNewHeap

namespace Go.Proofs.Ytpkldmmabgnhoaa
/-- the statement, under its short name -/
theorem fnExactNewHeap_holds : Rows.FnExactNewHeapSaid := fnExactNewHeap.proved
#print axioms fnExactNewHeap_holds
end Go.Proofs.Ytpkldmmabgnhoaa
