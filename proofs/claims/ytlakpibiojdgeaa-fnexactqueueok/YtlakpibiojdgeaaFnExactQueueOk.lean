/- For every list of texts the program's QueueOk answers as the model's QueueOk and writes into nothing that it was given (the law itself lets off what has over 1048576 names and bytes): the law's call returns true and its arguments read as before; no condition. -/
import Derived.Test.YtlakpibiojdgeaaQs3
import Derived.Test.YtlakpibiojdgeaaQp4
namespace Go.Proofs.Ytlakpibiojdgeaa.fnExactQueueOk
open Go.ChangeShapes Go.WideShapes Go.ChangeAt Go.RowKit
open Go.Proofs.Ytlakpibiojdgeaa.ce Go.Proofs.Ytlakpibiojdgeaa.ro Go.Proofs.Ytlakpibiojdgeaa.rg
open Go.ChangeMaps (open_string shut_string)
set_option linter.unusedVariables false

theorem own : ownKnob Try.prog.godebug = none := by kernel_rfl
theorem laidOut : laidOutB Try.prog = true := by kernel_rfl

/-! ### the walk -/
set_option maxRecDepth 100000 in
set_option maxHeartbeats 4000000 in
theorem walk (q : List ByteArray) (vq : Value) (w : World) (hv : Rd encS w vq q) (hss : ∀ s ∈ q, s.size ≤ 9223372036854775807) :
    Calls Try.prog 3 #[vq] w fun e w' => e = .returned (.bool true) ∧ Below w.heap.size w w' := by
  obtain ⟨a, cap, rfl⟩ := hv.form
  have R : Hid (Rd encS w (.slice a q.length cap) q) := hv
  have HS : Hid (∀ s ∈ q, s.size ≤ 9223372036854775807) := hss
  clear hv hss
  have hB : Below w.heap.size w w := Below.refl _ _
  have hzw := hB.size
  obtain ⟨z, hZ⟩ := hid_ex (namesB q)
  have hzz : (z != z) = false := by simp
  go_enter Try.func3, Try.ntmps3
  have mk1 : Hid True := trivial
  go_wp2_with (first | (clear mk1; go_at_call 9; refine (szTexts_any q _ 1048576 (by omega) (by omega) _ R.out HS.out).mono ?_; rintro er wq ⟨Z, rfl, hq, -, hr⟩; subst wq; by_cases hneg : Z < 0) | (fail))
  · go_ret
    exact ⟨rfl, hB⟩
  have hlq : q.length ≤ 1048576 := by have := hr (by omega); omega
  clear hr
  have mk2 : Hid True := trivial
  have mk3 : Hid True := trivial
  have mk4 : Hid True := trivial
  have mk5 : Hid True := trivial
  have mk6 : Hid True := trivial
  have mk7 : Hid True := trivial
  go_wp2_with (first | (clear mk2; go_at_call 11; refine (toTexts_any q _ _ (R.out.grow hB) hlq).mono ?_; rintro er w1 ⟨vt, rfl, ot, hB1⟩; have hz1 : w.heap.size ≤ w1.heap.size := hB1.size; replace hB := hB.trans (hB1.mono (by omega)); replace hzw := hB.size; obtain ⟨At, Nt, Kt, rfl⟩ := ot.slice) | (clear mk3; go_at_call 10; refine (specQueueOk_any q _ _ ot.rd HS.out).mono ?_; rintro er wq ⟨he, hq⟩; subst wq; rw [hZ.out] at he; subst he) | (clear mk4; go_at_call 11; refine (toTexts_any q _ _ (R.out.grow hB) hlq).mono ?_; rintro er w2 ⟨vx, rfl, ox, hB2⟩; have hz2 : w1.heap.size ≤ w2.heap.size := hB2.size; replace hB := hB.trans (hB2.mono (by omega)); replace hzw := hB.size; obtain ⟨Ax, Nx, Kx, rfl⟩ := ox.slice) | (clear mk5; go_at_call 12; refine (implQueueOk_any q _ _ ox.rd HS.out).mono ?_; rintro er wq ⟨he, hq⟩; subst wq; rw [hZ.out] at he; subst he) | (clear mk6; go_at_call 11; refine (toTexts_any q _ _ (R.out.grow hB) hlq).mono ?_; rintro er w3 ⟨vy, rfl, oy, hB3⟩; have hz3 : w2.heap.size ≤ w3.heap.size := hB3.size; replace ox := ox.grow hB3; replace hB := hB.trans (hB3.mono (by omega)); replace hzw := hB.size; obtain ⟨Ay, Ny, Ky, rfl⟩ := oy.slice) | (clear mk7; go_at_call 13; refine (eqTexts_any q _ _ _ ox.rd oy.rd).mono ?_; rintro er w4 ⟨rfl, hB4⟩; have hz4 : w3.heap.size ≤ w4.heap.size := hB4.size; replace ox := ox.grow hB4; replace oy := oy.grow hB4; replace hB := hB.trans (hB4.mono (by omega)); replace hzw := hB.size) | (fail))
  go_ret
  exact ⟨rfl, hB⟩

/-! ### the row, by the frame -/
set_option maxRecDepth 100000 in
theorem lifted (os : Os) (started : os.Started) (H : Type) (enc : TypeId × Value → H) :
    ReturnsInHanded {} Try.checked os 3 .any (Rows.fnExactQueueOkSpec.pre6 enc Try.prog Try.f3 Rows.fnExactQueueOkRow.domain false) (Rows.fnExactQueueOkSpec.post enc Try.prog Try.f3 false true false false) := by
  refine returnsInHanded_of_change (C := Try.checked) own started (by kernel_rfl) Try.func3
    (ChangeSpec.witness6 (enc := enc) (C := Try.checked) false ⟨#[], #[.slice none 0 0], []⟩ 8 (by kernel_rfl) (by kernel_rfl) (by kernel_rfl) (by kernel_rfl)) ?_
  intro W base args ds gs before hval0 hW hcnd _
  have hval : ∀ (j : Nat) t v, Try.f3.params[j]? = some t → args[j]? = some v → Value.okWide Try.prog W .any base t v := hval0
  have hW' := hW
  obtain ⟨p, q, hA0, hV, rfl, hfz, hnd⟩ := hW
  have hA : DataW.TrodAll enc Try.prog W 0 (fun _ => true) true Try.f3.params.toList args.toList ds p := hA0
  rw [Try.params3] at hA hval
  obtain ⟨v0, vs0, d0, ds0, p0, q0, hargs, rfl, rfl, h0, r0⟩ := trodAll_cons hA
  obtain ⟨rfl, rfl, rfl⟩ := trodAll_nil r0
  obtain rfl : args = #[v0] := by cases args; simp_all
  obtain ⟨rfl, rfl⟩ := trodVars_none hV
  have k0 := h0
  have lt0 : ∀ x ∈ p0, x.block < W.heap.size := by obtain ⟨m, hm⟩ := k0; exact DataW.trod_lt m _ _ _ hm
  obtain ⟨L0, hR0, hS0⟩ := open_texts (hval 0 22 v0 rfl rfl) h0
  clear hA0 hval0
  refine (walk L0 v0 W hR0 hS0).mono fun e W' ⟨he, bel⟩ => ?_
  subst he
  exact ⟨_, rfl, _, _, _, [], _, [], hW', trodAll_mk1 (shut_bool Try.underlying4 _), (trodAll_cons_mk (Below.trod laidOut (by kernel_rfl) (of_decide_eq_true (by kernel_rfl)) k0 bel lt0) trodAll_mk0), rfl, bel.frame _, fun h => by cases h⟩

theorem over : Rows.fnExactQueueOkRow.holds Try.pinned (OpenSpec.ofChange Rows.fnExactQueueOkSpec) :=
  OpenClaim.holds_of_wide 3 Try.f3 rfl rfl rfl rfl rfl rfl rfl ⟨rfl, rfl, rfl, rfl, rfl⟩ rfl rfl rfl rfl rfl (by kernel_rfl) Try.func3 (by kernel_rfl)
    (of_decide_eq_true (by kernel_rfl)) (by unfold Func.isWrapper; first | (rw [if_pos (by decide +kernel)]; kernel_rfl) | (rw [if_neg (by decide +kernel)]; exact ⟨rfl, rfl⟩))
    (fun os started H enc _ => lifted os started H enc)

/-- the statement -/
theorem proved : Rows.FnExactQueueOkSaid := over
end Go.Proofs.Ytlakpibiojdgeaa.fnExactQueueOk

namespace Go.Proofs.Ytlakpibiojdgeaa
/-- the statement, under its short name -/
theorem fnExactQueueOk_holds : Rows.FnExactQueueOkSaid := fnExactQueueOk.proved
#print axioms fnExactQueueOk_holds
end Go.Proofs.Ytlakpibiojdgeaa
