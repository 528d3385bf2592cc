/- For all cells and keys the program's ValueAt answers as the model's ValueAt and writes into nothing that it was given (the law itself lets off what is over 1048576 cells): the law's call returns true and its arguments read as before; no condition. -/
import Derived.Test.YtedaioljkpfiiaaIt6
import Derived.Test.YtedaioljkpfiiaaClOpen
import Derived.Test.YtedaioljkpfiiaaIn2
namespace Go.Proofs.Ytedaioljkpfiiaa.fnExactValueAt
open Go.ChangeShapes Go.WideShapes Go.ChangeAt Go.RowKit
open Go.Proofs.Ytedaioljkpfiiaa.ce Go.Proofs.Ytedaioljkpfiiaa.it
set_option linter.unusedVariables false

theorem own : ownKnob Try.prog.godebug = none := by kernel_rfl
theorem laidOut : laidOutB Try.prog = true := by kernel_rfl

/-! ### the walk -/
set_option maxRecDepth 100000 in
set_option maxHeartbeats 4000000 in
theorem walk (v : Value) (H : List C) (key : Int) (w : World) (hv : Rd w w.heap.size v H) :
    Calls Try.prog 5 #[v, .int .i64 key] w fun e w' => e = .returned (.bool true) ∧ Below w.heap.size w w' := by
  have hl := hv.len
  obtain ⟨a, cap, rfl⟩ := hv.form
  have hV : Hid (Rd w w.heap.size (.slice a H.length cap) H) := hv
  clear hv
  obtain ⟨y, hy⟩ := hid_ex ((valueL H key).1)
  obtain ⟨y2, hy2⟩ := hid_ex ((valueL H key).2)
  have hyy : (y != y) = false := by simp
  have hyy2 : (y2 != y2) = false := by simp
  have m1 : Hid True := trivial
  have m2 : Hid True := trivial
  have m3 : Hid True := trivial
  have m4 : Hid True := trivial
  have m5 : Hid True := trivial
  have m6 : Hid True := trivial
  have m7 : Hid True := trivial
  go_enter Try.func5, Try.ntmps5
  go_wp2_with (first | (clear m1; go_at_call 8; refine (szCells _ _ _ hl _).mono ?_; rintro e wq ⟨r, rfl, hq, hr⟩; subst wq; have hB : Below w.heap.size w w := Below.refl _ _; have hzw : w.heap.size ≤ w.heap.size := Nat.le_refl _; by_cases hneg : r < 0) | (clear m2; go_at_call 10; refine (toCells_any H _ w.heap.size _ (by omega) (hV.out.below hB (Nat.le_refl _)) (hr (by omega))).mono ?_; rintro e w1 ⟨va, rfl, hoa, hB1⟩; have hz1 : w.heap.size ≤ w1.heap.size := hB1.size; replace hB := hB.trans (hB1.mono (by omega)); have hzw := hB.size) | (clear m3; go_at_call 19; refine (specValueAt_any H key _ w1.heap.size _ (Nat.le_refl _) hoa.rd).mono ?_; rintro e w2 ⟨he, hB2⟩; have hz2 : w1.heap.size ≤ w2.heap.size := hB2.size; replace hoa := hoa.below hB2 (by omega); replace hB := hB.trans (hB2.mono (by omega)); replace hzw := hB.size; clear hoa; rw [hy.out, hy2.out] at he; subst he) | (clear m4; go_at_call 10; refine (toCells_any H _ w.heap.size _ (by omega) (hV.out.below hB (Nat.le_refl _)) (hr (by omega))).mono ?_; rintro e w3 ⟨vx, rfl, hox, hB3⟩; have hz3 : w2.heap.size ≤ w3.heap.size := hB3.size; replace hB := hB.trans (hB3.mono (by omega)); replace hzw := hB.size) | (clear m5; go_at_call 20; refine (implValueAt_any H key _ w3.heap.size _ (Nat.le_refl _) hox.rd).mono ?_; rintro e w4 ⟨he, hB4⟩; have hz4 : w3.heap.size ≤ w4.heap.size := hB4.size; replace hox := hox.below hB4 (by omega); replace hB := hB.trans (hB4.mono (by omega)); replace hzw := hB.size; rw [hy.out, hy2.out] at he; subst he) | (clear m6; go_at_call 10; refine (toCells_any H _ w.heap.size _ (by omega) (hV.out.below hB (Nat.le_refl _)) (hr (by omega))).mono ?_; rintro e w5 ⟨vb, rfl, hob, hB5⟩; have hz5 : w4.heap.size ≤ w5.heap.size := hB5.size; replace hox := hox.below hB5 (by omega); replace hB := hB.trans (hB5.mono (by omega)); replace hzw := hB.size) | (clear m7; go_at_call 13; refine (eqCells_any H _ _ w3.heap.size w5.heap.size _ (by omega) (Nat.le_refl _) hox.rd hob.rd).mono ?_; rintro e w6 ⟨rfl, hB6⟩; have hz6 : w5.heap.size ≤ w6.heap.size := hB6.size; replace hox := hox.below hB6 (by omega); replace hob := hob.below hB6 (by omega); replace hB := hB.trans (hB6.mono (by omega)); replace hzw := hB.size) | (fail))
  · go_ret
    exact ⟨rfl, Below.refl _ _⟩
  · go_ret
    exact ⟨rfl, hB⟩


/-! ### the row, by the frame -/
set_option maxRecDepth 100000 in
theorem lifted (os : Os) (started : os.Started) (H : Type) (enc : TypeId × Value → H) :
    ReturnsInHanded {} Try.checked os 5 .any (Rows.fnExactValueAtSpec.pre6 enc Try.prog Try.f5 Rows.fnExactValueAtRow.domain false) (Rows.fnExactValueAtSpec.post enc Try.prog Try.f5 false true false false) := by
  refine returnsInHanded_of_change (C := Try.checked) own started (by kernel_rfl) Try.func5
    (ChangeSpec.witness6 (enc := enc) (C := Try.checked) false ⟨#[], #[.slice none 0 0, .int .i64 0], []⟩ 8 (by kernel_rfl) (by kernel_rfl) (by kernel_rfl) (by kernel_rfl)) ?_
  intro W base args ds gs before hval0 hW hcnd _
  have hval : ∀ (j : Nat) t v, Try.f5.params[j]? = some t → args[j]? = some v → Value.okWide Try.prog W .any base t v := hval0
  have hW' := hW
  obtain ⟨p, q, hA0, hV, rfl, hfz, hnd⟩ := hW
  have hA : DataW.TrodAll enc Try.prog W 0 (fun _ => true) true Try.f5.params.toList args.toList ds p := hA0
  rw [Try.params5] at hA hval
  obtain ⟨v0, vs0, d0, ds0, p0, q0, hargs, rfl, rfl, h0, r0⟩ := trodAll_cons hA
  obtain ⟨v1, vs1, d1, ds1, p1, q1, rfl, rfl, rfl, h1, r1⟩ := trodAll_cons r0
  obtain ⟨rfl, rfl, rfl⟩ := trodAll_nil r1
  obtain rfl : args = #[v0, v1] := by cases args; simp_all
  obtain ⟨rfl, rfl⟩ := trodVars_none hV
  have k0 := h0
  have lt0 : ∀ x ∈ p0, x.block < W.heap.size := by obtain ⟨m, hm⟩ := k0; exact DataW.trod_lt m _ _ _ hm
  obtain ⟨L, hR⟩ := open_cells (hval 0 22 v0 rfl rfl) h0
  obtain ⟨a1, rfl, rfl, rfl, ws1⟩ := open_int Try.underlying2 (hval 1 2 v1 rfl rfl) h1
  clear hA0 hval0
  refine (walk v0 L a1 W hR).mono fun e W' ⟨he, bel⟩ => ?_
  subst he
  exact ⟨_, rfl, _, _, _, [], _, [], hW', trodAll_mk1 (shut_bool Try.underlying4 _), (trodAll_cons_mk (Below.trod laidOut (by kernel_rfl) (of_decide_eq_true (by kernel_rfl)) k0 bel lt0) (trodAll_cons_mk (shut_int Try.underlying2 ws1) trodAll_mk0)), rfl, bel.frame _, fun h => by cases h⟩

theorem over : Rows.fnExactValueAtRow.holds Try.pinned (OpenSpec.ofChange Rows.fnExactValueAtSpec) :=
  OpenClaim.holds_of_wide 5 Try.f5 rfl rfl rfl rfl rfl rfl rfl ⟨rfl, rfl, rfl, rfl, rfl⟩ rfl rfl rfl rfl rfl (by kernel_rfl) Try.func5 (by kernel_rfl)
    (of_decide_eq_true (by kernel_rfl)) (by unfold Func.isWrapper; first | (rw [if_pos (by decide +kernel)]; kernel_rfl) | (rw [if_neg (by decide +kernel)]; exact ⟨rfl, rfl⟩))
    (fun os started H enc _ => lifted os started H enc)

/-- the statement -/
theorem proved : Rows.FnExactValueAtSaid := over
end Go.Proofs.Ytedaioljkpfiiaa.fnExactValueAt

namespace Go.Proofs.Ytedaioljkpfiiaa
/-- the statement, under its short name -/
theorem fnExactValueAt_holds : Rows.FnExactValueAtSaid := fnExactValueAt.proved
#print axioms fnExactValueAt_holds
end Go.Proofs.Ytedaioljkpfiiaa
