/- For every list of things the program's SoonestOf answers as the model's SoonestOf and writes into nothing that it was given (the law itself lets off what has over 1048576 things and bytes): the law's call returns true and its arguments read as before; no condition. -/
import Derived.Test.YtmnjmghlkiljhaaIs2
import Derived.Test.YtmnjmghlkiljhaaWh9
import Derived.Test.YtmnjmghlkiljhaaWi1
namespace Go.Proofs.Ytmnjmghlkiljhaa.fnExactSoonestOf
open Go.ChangeShapes Go.WideShapes Go.ChangeAt Go.RowKit
open Go.Proofs.Ytmnjmghlkiljhaa.ce Go.Proofs.Ytmnjmghlkiljhaa.ro Go.Proofs.Ytmnjmghlkiljhaa.rg
open Go.ChangeMaps (open_string shut_string)
set_option linter.unusedVariables false

theorem own : ownKnob Try.prog.godebug = none := by kernel_rfl
theorem laidOut : laidOutB Try.prog = true := by kernel_rfl

/-! ### the walk -/
set_option maxRecDepth 100000 in
set_option maxHeartbeats 4000000 in
theorem walk (q : List It) (vq : Value) (w : World) (hv : Rd encLi w vq q) (hlo : Lo q) :
    Calls Try.prog 6 #[vq] w fun e w' => e = .returned (.bool true) ∧ Below w.heap.size w w' := by
  obtain ⟨a, cap, rfl⟩ := hv.form
  have R : Hid (Rd encLi w (.slice a q.length cap) q) := hv
  have HS : Hid (Lo q) := hlo
  clear hv hlo
  have hB : Below w.heap.size w w := Below.refl _ _
  have hzw := hB.size
  obtain ⟨z, hZ⟩ := hid_ex (sooI q)
  have hzz : (z != z) = false := by simp
  go_enter Try.func6, Try.ntmps6
  have mk1 : Hid True := trivial
  go_wp2_with (first | (clear mk1; go_at_call 39; refine (szItems_any q _ 1048576 (by omega) (by omega) _ R.out HS.out).mono ?_; rintro er w1 ⟨Z, rfl, hB1, hr⟩; have hz1 : w.heap.size ≤ w1.heap.size := hB1.size; replace hB := hB.trans (hB1.mono (by omega)); replace hzw := hB.size; by_cases hneg : Z < 0) | (fail))
  · go_ret
    exact ⟨rfl, hB⟩
  have hsm := hr (by omega)
  clear hr
  obtain ⟨hlq, hsq⟩ := hsm
  have HQ : Hid (SmK q) := hsq
  clear hsq
  have mk2 : Hid True := trivial
  have mk3 : Hid True := trivial
  have mk4 : Hid True := trivial
  have mk5 : Hid True := trivial
  have mk6 : Hid True := trivial
  have mk7 : Hid True := trivial
  go_wp2_with (first | (clear mk2; go_at_call 40; refine (toItems_any q _ _ (R.out.grow hB) hlq).mono ?_; rintro er w2 ⟨vt, rfl, ot, hB2⟩; have hz2 : w1.heap.size ≤ w2.heap.size := hB2.size; replace hB := hB.trans (hB2.mono (by omega)); replace hzw := hB.size; obtain ⟨At, Nt, Kt, rfl⟩ := ot.slice) | (clear mk3; go_at_call 33; refine (specSoonestOf_any q _ _ ot.rd HQ.out).mono ?_; rintro er w3 ⟨he, hB3⟩; have hz3 : w2.heap.size ≤ w3.heap.size := hB3.size; replace hB := hB.trans (hB3.mono (by omega)); replace hzw := hB.size; rw [hZ.out] at he; subst he) | (clear mk4; go_at_call 40; refine (toItems_any q _ _ (R.out.grow hB) hlq).mono ?_; rintro er w4 ⟨vx, rfl, ox, hB4⟩; have hz4 : w3.heap.size ≤ w4.heap.size := hB4.size; replace hB := hB.trans (hB4.mono (by omega)); replace hzw := hB.size; obtain ⟨Ax, Nx, Kx, rfl⟩ := ox.slice) | (clear mk5; go_at_call 32; refine (implSoonestOf_any q _ _ ox.rd HQ.out).mono ?_; rintro er w5 ⟨he, hB5⟩; have hz5 : w4.heap.size ≤ w5.heap.size := hB5.size; replace ox := ox.grow hB5; replace hB := hB.trans (hB5.mono (by omega)); replace hzw := hB.size; rw [hZ.out] at he; subst he) | (clear mk6; go_at_call 40; refine (toItems_any q _ _ (R.out.grow hB) hlq).mono ?_; rintro er w6 ⟨vy, rfl, oy, hB6⟩; have hz6 : w5.heap.size ≤ w6.heap.size := hB6.size; replace ox := ox.grow hB6; replace hB := hB.trans (hB6.mono (by omega)); replace hzw := hB.size; obtain ⟨Ay, Ny, Ky, rfl⟩ := oy.slice) | (clear mk7; go_at_call 42; refine (eqItems_any q _ _ _ ox.rd oy.rd).mono ?_; rintro er w7 ⟨rfl, hB7⟩; have hz7 : w6.heap.size ≤ w7.heap.size := hB7.size; replace ox := ox.grow hB7; replace oy := oy.grow hB7; replace hB := hB.trans (hB7.mono (by omega)); replace hzw := hB.size) | (fail))
  go_ret
  exact ⟨rfl, hB⟩

/-! ### the row, by the frame -/
set_option maxRecDepth 100000 in
theorem lifted (os : Os) (started : os.Started) (H : Type) (enc : TypeId × Value → H) :
    ReturnsInHanded {} Try.checked os 6 .any (Rows.fnExactSoonestOfSpec.pre6 enc Try.prog Try.f6 Rows.fnExactSoonestOfRow.domain false) (Rows.fnExactSoonestOfSpec.post enc Try.prog Try.f6 false true false false) := by
  refine returnsInHanded_of_change (C := Try.checked) own started (by kernel_rfl) Try.func6
    (ChangeSpec.witness6 (enc := enc) (C := Try.checked) false ⟨#[], #[.slice none 0 0], []⟩ 8 (by kernel_rfl) (by kernel_rfl) (by kernel_rfl) (by kernel_rfl)) ?_
  intro W base args ds gs before hval0 hW hcnd _
  have hval : ∀ (j : Nat) t v, Try.f6.params[j]? = some t → args[j]? = some v → Value.okWide Try.prog W .any base t v := hval0
  have hW' := hW
  obtain ⟨p, q, hA0, hV, rfl, hfz, hnd⟩ := hW
  have hA : DataW.TrodAll enc Try.prog W 0 (fun _ => true) true Try.f6.params.toList args.toList ds p := hA0
  rw [Try.params6] at hA hval
  obtain ⟨v0, vs0, d0, ds0, p0, q0, hargs, rfl, rfl, h0, r0⟩ := trodAll_cons hA
  obtain ⟨rfl, rfl, rfl⟩ := trodAll_nil r0
  obtain rfl : args = #[v0] := by cases args; simp_all
  obtain ⟨rfl, rfl⟩ := trodVars_none hV
  have k0 := h0
  have lt0 : ∀ x ∈ p0, x.block < W.heap.size := by obtain ⟨m, hm⟩ := k0; exact DataW.trod_lt m _ _ _ hm
  obtain ⟨L0, hR0, hS0⟩ := open_items (hval 0 61 v0 rfl rfl) h0
  clear hA0 hval0
  refine (walk L0 v0 W hR0 hS0).mono fun e W' ⟨he, bel⟩ => ?_
  subst he
  exact ⟨_, rfl, _, _, _, [], _, [], hW', trodAll_mk1 (shut_bool Try.underlying4 _), (trodAll_cons_mk (Below.trod laidOut (by kernel_rfl) (of_decide_eq_true (by kernel_rfl)) k0 bel lt0) trodAll_mk0), rfl, bel.frame _, fun h => by cases h⟩

theorem over : Rows.fnExactSoonestOfRow.holds Try.pinned (OpenSpec.ofChange Rows.fnExactSoonestOfSpec) :=
  OpenClaim.holds_of_wide 6 Try.f6 rfl rfl rfl rfl rfl rfl rfl ⟨rfl, rfl, rfl, rfl, rfl⟩ rfl rfl rfl rfl rfl (by kernel_rfl) Try.func6 (by kernel_rfl)
    (of_decide_eq_true (by kernel_rfl)) (by unfold Func.isWrapper; first | (rw [if_pos (by decide +kernel)]; kernel_rfl) | (rw [if_neg (by decide +kernel)]; exact ⟨rfl, rfl⟩))
    (fun os started H enc _ => lifted os started H enc)

/-- the statement -/
theorem proved : Rows.FnExactSoonestOfSaid := over
end Go.Proofs.Ytmnjmghlkiljhaa.fnExactSoonestOf

namespace Go.Proofs.Ytmnjmghlkiljhaa
/-- the statement, under its short name -/
theorem fnExactSoonestOf_holds : Rows.FnExactSoonestOfSaid := fnExactSoonestOf.proved
#print axioms fnExactSoonestOf_holds
end Go.Proofs.Ytmnjmghlkiljhaa
