/- For all cells the program's Living answers as the model's Living, it writes into nothing that it was given, and its answer owns its memory, behind another call too (the law itself lets off what is over 1048576 cells): the law's call returns true and its arguments read as before; no condition. -/
import Derived.Test.YtedaioljkpfiiaaIt6
import Derived.Test.YtedaioljkpfiiaaClOpen
import Derived.Test.YtedaioljkpfiiaaIn2
namespace Go.Proofs.Ytedaioljkpfiiaa.fnExactLiving
open Go.ChangeShapes Go.WideShapes Go.ChangeAt Go.RowKit
open Go.Proofs.Ytedaioljkpfiiaa.ce Go.Proofs.Ytedaioljkpfiiaa.it
set_option linter.unusedVariables false

theorem own : ownKnob Try.prog.godebug = none := by kernel_rfl
theorem laidOut : laidOutB Try.prog = true := by kernel_rfl

/-! ### the walk -/
set_option maxRecDepth 100000 in
set_option maxHeartbeats 4000000 in
theorem walk (v : Value) (H : List C) (w : World) (hv : Rd w w.heap.size v H) :
    Calls Try.prog 4 #[v] w fun e w' => e = .returned (.bool true) ∧ Below w.heap.size w w' := by
  have hl := hv.len
  obtain ⟨a, cap, rfl⟩ := hv.form
  have hV : Hid (Rd w w.heap.size (.slice a H.length cap) H) := hv
  clear hv
  obtain ⟨L, hL⟩ := hid_ex (livingL H)
  have hLl : L.length ≤ 1048576 := by rw [← hL.out]; exact livingL_le H
  have hsn : ¬ (1 + (L.length : Int) < 0) := by omega
  have hsd : decide (1 + 4 * (H.length : Int) < 0) = false := decide_eq_false (by omega)
  have hsd' : ¬ (1 + 4 * (H.length : Int) < 0) := by omega
  have hse : ((1 + (L.length : Int)) != (1 + (L.length : Int))) = false := by simp
  have m1 : Hid True := trivial
  have m2 : Hid True := trivial
  have m3 : Hid True := trivial
  have m4 : Hid True := trivial
  have m5 : Hid True := trivial
  have m6 : Hid True := trivial
  have m7 : Hid True := trivial
  have m8 : Hid True := trivial
  have m9 : Hid True := trivial
  have m10 : Hid True := trivial
  have m11 : Hid True := trivial
  have m12 : Hid True := trivial
  have m13 : Hid True := trivial
  have m14 : Hid True := trivial
  have m15 : Hid True := trivial
  have m16 : Hid True := trivial
  go_enter Try.func4, Try.ntmps4
  go_wp2_with (first | (clear m1; go_at_call 8; refine (szCells _ _ _ hl _).mono ?_; rintro e wq ⟨r, rfl, hq, hr⟩; subst wq; have hB : Below w.heap.size w w := Below.refl _ _; have hzw : w.heap.size ≤ w.heap.size := Nat.le_refl _; by_cases hneg : r < 0) | (clear m2; go_at_call 10; refine (toCells_any H _ w.heap.size _ (by omega) (hV.out.below hB (Nat.le_refl _)) (hr (by omega))).mono ?_; rintro e w1 ⟨va, rfl, hoa, hB1⟩; have hz1 : w.heap.size ≤ w1.heap.size := hB1.size; replace hB := hB.trans (hB1.mono (by omega)); have hzw := hB.size) | (clear m3; go_at_call 17; refine (specLiving_any H _ w1.heap.size _ (Nat.le_refl _) hoa.rd).mono ?_; rintro e w2 ⟨vw, rfl, how, hB2⟩; have hz2 : w1.heap.size ≤ w2.heap.size := hB2.size; replace hoa := hoa.below hB2 (by omega); replace hB := hB.trans (hB2.mono (by omega)); replace hzw := hB.size; clear hoa; rw [hL.out] at how) | (clear m4; go_at_call 10; refine (toCells_any H _ w.heap.size _ (by omega) (hV.out.below hB (Nat.le_refl _)) (hr (by omega))).mono ?_; rintro e w3 ⟨vx, rfl, hox, hB3⟩; have hz3 : w2.heap.size ≤ w3.heap.size := hB3.size; replace how := how.below hB3 (by omega); replace hB := hB.trans (hB3.mono (by omega)); replace hzw := hB.size) | (clear m5; go_at_call 18; refine (implLiving_any H _ w3.heap.size _ (Nat.le_refl _) hox.rd).mono ?_; rintro e w4 ⟨vg, rfl, hog, hB4⟩; have hz4 : w3.heap.size ≤ w4.heap.size := hB4.size; replace how := how.below hB4 (by omega); replace hox := hox.below hB4 (by omega); replace hB := hB.trans (hB4.mono (by omega)); replace hzw := hB.size; rw [hL.out] at hog) | (clear m6; go_at_call 12; refine (eqInts_any L _ _ w4.heap.size w2.heap.size _ (by omega) (by omega) hog.rd how.rd).mono ?_; rintro e w5 ⟨rfl, hB5⟩; have hz5 : w4.heap.size ≤ w5.heap.size := hB5.size; replace how := how.below hB5 (by omega); replace hox := hox.below hB5 (by omega); replace hog := hog.below hB5 (by omega); replace hB := hB.trans (hB5.mono (by omega)); replace hzw := hB.size) | (clear m7; go_at_call 10; refine (toCells_any H _ w.heap.size _ (by omega) (hV.out.below hB (Nat.le_refl _)) (hr (by omega))).mono ?_; rintro e w6 ⟨vb, rfl, hob, hB6⟩; have hz6 : w5.heap.size ≤ w6.heap.size := hB6.size; replace how := how.below hB6 (by omega); replace hox := hox.below hB6 (by omega); replace hog := hog.below hB6 (by omega); replace hB := hB.trans (hB6.mono (by omega)); replace hzw := hB.size) | (clear m8; go_at_call 13; refine (eqCells_any H _ _ w3.heap.size w6.heap.size _ (by omega) (by omega) hox.rd hob.rd).mono ?_; rintro e w7 ⟨rfl, hB7⟩; have hz7 : w6.heap.size ≤ w7.heap.size := hB7.size; replace how := how.below hB7 (by omega); replace hox := hox.below hB7 (by omega); replace hog := hog.below hB7 (by omega); replace hob := hob.below hB7 (by omega); replace hB := hB.trans (hB7.mono (by omega)); replace hzw := hB.size; clear hob) | (clear m9; go_at_call 14; refine (markCells_any H _ w2.heap.size w3.heap.size _ hox (hr (by omega))).mono ?_; rintro e w8 ⟨rfl, hox8, hM8⟩; have hz8 : w7.heap.size ≤ w8.heap.size := hM8.size; replace how := how.keep (w' := w8) (fun k g1 g2 => hM8.block k (by omega) (by omega)); replace hog := hog.keep (w' := w8) (fun k g1 g2 => hM8.block k (by omega) (by omega)); replace hB := hB.trans (hM8.below (by omega) (by omega)); replace hzw := hB.size; clear hox hox8) | (clear m10; go_at_call 12; refine (eqInts_any L _ _ w4.heap.size w2.heap.size _ (by omega) (by omega) hog.rd how.rd).mono ?_; rintro e w9 ⟨rfl, hB9⟩; have hz9 : w8.heap.size ≤ w9.heap.size := hB9.size; replace how := how.below hB9 (by omega); replace hog := hog.below hB9 (by omega); replace hB := hB.trans (hB9.mono (by omega)); replace hzw := hB.size) | (clear m11; go_at_call 15; refine (markInts_any L _ w3.heap.size w4.heap.size _ hog hLl).mono ?_; rintro e w10 ⟨rfl, hog10, hM10⟩; have hz10 : w9.heap.size ≤ w10.heap.size := hM10.size; replace how := how.keep (w' := w10) (fun k g1 g2 => hM10.block k (by omega) (by omega)); replace hB := hB.trans (hM10.below (by omega) (by omega)); replace hzw := hB.size; clear hog; have hog := hog10; clear hog10) | (clear m12; go_at_call 16; refine (heldInts_any L.length _ w4.heap.size _ hog.rd hLl).mono ?_; rintro e wq ⟨rfl, hq⟩; subst wq) | (clear m13; go_at_call 10; refine (toCells_any H _ w.heap.size _ (by omega) (hV.out.below hB (Nat.le_refl _)) (hr (by omega))).mono ?_; rintro e w11 ⟨vc, rfl, hoc, hB11⟩; have hz11 : w10.heap.size ≤ w11.heap.size := hB11.size; replace how := how.below hB11 (by omega); replace hog := hog.below hB11 (by omega); replace hB := hB.trans (hB11.mono (by omega)); replace hzw := hB.size) | (clear m14; go_at_call 18; refine (implLiving_any H _ w11.heap.size _ (Nat.le_refl _) hoc.rd).mono ?_; rintro e w12 ⟨vh, rfl, hoh, hB12⟩; have hz12 : w11.heap.size ≤ w12.heap.size := hB12.size; replace how := how.below hB12 (by omega); replace hog := hog.below hB12 (by omega); replace hoc := hoc.below hB12 (by omega); replace hB := hB.trans (hB12.mono (by omega)); replace hzw := hB.size; clear hoc; rw [hL.out] at hoh) | (clear m15; go_at_call 12; refine (eqInts_any L _ _ w12.heap.size w2.heap.size _ (by omega) (by omega) hoh.rd how.rd).mono ?_; rintro e w13 ⟨rfl, hB13⟩; have hz13 : w12.heap.size ≤ w13.heap.size := hB13.size; replace how := how.below hB13 (by omega); replace hog := hog.below hB13 (by omega); replace hoh := hoh.below hB13 (by omega); replace hB := hB.trans (hB13.mono (by omega)); replace hzw := hB.size) | (clear m16; go_at_call 16; refine (heldInts_any L.length _ w4.heap.size _ hog.rd hLl).mono ?_; rintro e wq ⟨rfl, hq⟩; subst wq) | (fail))
  · go_ret
    exact ⟨rfl, Below.refl _ _⟩
  · go_ret
    exact ⟨rfl, hB⟩


/-! ### the row, by the frame -/
set_option maxRecDepth 100000 in
theorem lifted (os : Os) (started : os.Started) (H : Type) (enc : TypeId × Value → H) :
    ReturnsInHanded {} Try.checked os 4 .any (Rows.fnExactLivingSpec.pre6 enc Try.prog Try.f4 Rows.fnExactLivingRow.domain false) (Rows.fnExactLivingSpec.post enc Try.prog Try.f4 false true false false) := by
  refine returnsInHanded_of_change (C := Try.checked) own started (by kernel_rfl) Try.func4
    (ChangeSpec.witness6 (enc := enc) (C := Try.checked) false ⟨#[], #[.slice none 0 0], []⟩ 8 (by kernel_rfl) (by kernel_rfl) (by kernel_rfl) (by kernel_rfl)) ?_
  intro W base args ds gs before hval0 hW hcnd _
  have hval : ∀ (j : Nat) t v, Try.f4.params[j]? = some t → args[j]? = some v → Value.okWide Try.prog W .any base t v := hval0
  have hW' := hW
  obtain ⟨p, q, hA0, hV, rfl, hfz, hnd⟩ := hW
  have hA : DataW.TrodAll enc Try.prog W 0 (fun _ => true) true Try.f4.params.toList args.toList ds p := hA0
  rw [Try.params4] at hA hval
  obtain ⟨v0, vs0, d0, ds0, p0, q0, hargs, rfl, rfl, h0, r0⟩ := trodAll_cons hA
  obtain ⟨rfl, rfl, rfl⟩ := trodAll_nil r0
  obtain rfl : args = #[v0] := by cases args; simp_all
  obtain ⟨rfl, rfl⟩ := trodVars_none hV
  have k0 := h0
  have lt0 : ∀ x ∈ p0, x.block < W.heap.size := by obtain ⟨m, hm⟩ := k0; exact DataW.trod_lt m _ _ _ hm
  obtain ⟨L, hR⟩ := open_cells (hval 0 22 v0 rfl rfl) h0
  clear hA0 hval0
  refine (walk v0 L W hR).mono fun e W' ⟨he, bel⟩ => ?_
  subst he
  exact ⟨_, rfl, _, _, _, [], _, [], hW', trodAll_mk1 (shut_bool Try.underlying4 _), (trodAll_cons_mk (Below.trod laidOut (by kernel_rfl) (of_decide_eq_true (by kernel_rfl)) k0 bel lt0) trodAll_mk0), rfl, bel.frame _, fun h => by cases h⟩

theorem over : Rows.fnExactLivingRow.holds Try.pinned (OpenSpec.ofChange Rows.fnExactLivingSpec) :=
  OpenClaim.holds_of_wide 4 Try.f4 rfl rfl rfl rfl rfl rfl rfl ⟨rfl, rfl, rfl, rfl, rfl⟩ rfl rfl rfl rfl rfl (by kernel_rfl) Try.func4 (by kernel_rfl)
    (of_decide_eq_true (by kernel_rfl)) (by unfold Func.isWrapper; first | (rw [if_pos (by decide +kernel)]; kernel_rfl) | (rw [if_neg (by decide +kernel)]; exact ⟨rfl, rfl⟩))
    (fun os started H enc _ => lifted os started H enc)

/-- the statement -/
theorem proved : Rows.FnExactLivingSaid := over
end Go.Proofs.Ytedaioljkpfiiaa.fnExactLiving

namespace Go.Proofs.Ytedaioljkpfiiaa
/-- the statement, under its short name -/
theorem fnExactLiving_holds : Rows.FnExactLivingSaid := fnExactLiving.proved
#print axioms fnExactLiving_holds
end Go.Proofs.Ytedaioljkpfiiaa
