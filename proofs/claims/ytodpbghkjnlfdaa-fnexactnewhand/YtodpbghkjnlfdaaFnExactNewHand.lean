/- For every kind, key and value the program's NewHand answers as the model's NewHand: the law's call returns true and its arguments read as before; no condition. -/
import Derived.Test.YtodpbghkjnlfdaaMg04
import Derived.Test.YtodpbghkjnlfdaaIh9
namespace Go.Proofs.Ytodpbghkjnlfdaa.fnExactNewHand
open Go.ChangeShapes Go.WideShapes Go.ChangeAt Go.RowKit
open Go.Proofs.Ytodpbghkjnlfdaa.ce
set_option linter.unusedVariables false

theorem own : ownKnob Try.prog.godebug = none := by kernel_rfl
theorem laidOut : laidOutB Try.prog = true := by kernel_rfl

/-! ### the walk -/
set_option maxRecDepth 100000 in
set_option maxHeartbeats 4000000 in
theorem walk (kd : Int) (ky : Int) (vl : Int) (w : World)  :
    Calls Try.prog 4 #[.int .i64 kd, .int .i64 ky, .int .i64 vl] w fun e w' => e = .returned (.bool true) ∧ Below w.heap.size w w' := by
  obtain ⟨D, hD⟩ := hid_ex (newD kd ky vl)
  obtain ⟨z, hz⟩ := hid_ex (asksB kd ky)
  have hzz : (z != z) = false := by simp
  obtain ⟨k, x, y, s, l, e, o, t⟩ := D
  have m1 : Hid True := trivial
  have m2 : Hid True := trivial
  go_enter Try.func4, Try.ntmps4
  go_wp2_with (first | (go_at_call 15; refine (specNewHand_any kd ky vl _).mono ?_; rintro er w1 ⟨he, hB1⟩; rw [hD.out, hz.out] at he; subst he; have hz1 := hB1.size) | (clear m1; refine wpList_alloc_v rfl 29 rfl _ zeroH ?_; intro b7 w2 hb7 hw2 hB2 hV2; have hz2 := hB2.size) | (clear m2; refine wpList_store_v rfl 29 _ _ rfl b7 (hv ⟨k, x, y, s, l, e, o, t⟩) rfl rfl sizeH hV2 rfl (hv_one _) ?_; intro w3 hO3 hV3; have hz3 := hO3.1; have h7 : HB w3 b7 ⟨k, x, y, s, l, e, o, t⟩ := ⟨hV3⟩) | (go_at_call 16; refine (implNewHand_any kd ky vl _).mono ?_; rintro er w4 ⟨he, hB4⟩; rw [hD.out, hz.out] at he; subst he; have hz4 := hB4.size; replace h7 := h7.of (hB4.block b7 (by omega))) | (refine wpList_alloc_v rfl 29 rfl _ zeroH ?_; intro b9 w5 hb9 hw5 hB5 hV5; have hz5 := hB5.size; replace h7 := h7.of (hB5.block b7 (by omega))) | (refine wpList_store_v rfl 29 _ _ rfl b9 (hv ⟨k, x, y, s, l, e, o, t⟩) rfl rfl sizeH hV5 rfl (hv_one _) ?_; intro w6 hO6 hV6; have hz6 := hO6.1; have h9 : HB w6 b9 ⟨k, x, y, s, l, e, o, t⟩ := ⟨hV6⟩; replace h7 := h7.of (hO6.2.1 b7 (by omega)); obtain ⟨c0, c1, c2, c3, c4, c5, c6, c7⟩ := h7.cells; obtain ⟨d0, d1, d2, d3, d4, d5, d6, d7⟩ := h9.cells) | (go_at_call 17; refine (eqHand_any ⟨k, x, y, s, l, e, o, t⟩ _).mono ?_; rintro er w7 ⟨rfl, hB7⟩) | (fail))
  go_ret
  exact ⟨rfl, (((((hB1.trans (hB2.mono (by omega))).trans (hO3.2.2 _ (by omega))).trans (hB4.mono (by omega))).trans (hB5.mono (by omega))).trans (hO6.2.2 _ (by omega))).trans (hB7.mono (by omega))⟩


/-! ### the row, by the frame -/
set_option maxRecDepth 100000 in
theorem lifted (os : Os) (started : os.Started) (H : Type) (enc : TypeId × Value → H) :
    ReturnsInHanded {} Try.checked os 4 .any (Rows.fnExactNewHandSpec.pre6 enc Try.prog Try.f4 Rows.fnExactNewHandRow.domain false) (Rows.fnExactNewHandSpec.post enc Try.prog Try.f4 false true false false) := by
  refine returnsInHanded_of_change (C := Try.checked) own started (by kernel_rfl) Try.func4
    (ChangeSpec.witness6 (enc := enc) (C := Try.checked) false ⟨#[], #[.int .i64 0, .int .i64 0, .int .i64 0], []⟩ 8 (by kernel_rfl) (by kernel_rfl) (by kernel_rfl) (by kernel_rfl)) ?_
  intro W base args ds gs before hval0 hW hcnd _
  have hval : ∀ (j : Nat) t v, Try.f4.params[j]? = some t → args[j]? = some v → Value.okWide Try.prog W .any base t v := hval0
  have hW' := hW
  obtain ⟨p, q, hA0, hV, rfl, hfz, hnd⟩ := hW
  have hA : DataW.TrodAll enc Try.prog W 0 (fun _ => true) true Try.f4.params.toList args.toList ds p := hA0
  rw [Try.params4] at hA hval
  obtain ⟨v0, vs0, d0, ds0, p0, q0, hargs, rfl, rfl, h0, r0⟩ := trodAll_cons hA
  obtain ⟨v1, vs1, d1, ds1, p1, q1, rfl, rfl, rfl, h1, r1⟩ := trodAll_cons r0
  obtain ⟨v2, vs2, d2, ds2, p2, q2, rfl, rfl, rfl, h2, r2⟩ := trodAll_cons r1
  obtain ⟨rfl, rfl, rfl⟩ := trodAll_nil r2
  obtain rfl : args = #[v0, v1, v2] := by cases args; simp_all
  obtain ⟨rfl, rfl⟩ := trodVars_none hV
  obtain ⟨a0, rfl, rfl, rfl, ws0⟩ := open_int Try.underlying2 (hval 0 2 v0 rfl rfl) h0
  obtain ⟨a1, rfl, rfl, rfl, ws1⟩ := open_int Try.underlying2 (hval 1 2 v1 rfl rfl) h1
  obtain ⟨a2, rfl, rfl, rfl, ws2⟩ := open_int Try.underlying2 (hval 2 2 v2 rfl rfl) h2
  clear hA0 hval0
  refine (walk a0 a1 a2 W ).mono fun e W' ⟨he, bel⟩ => ?_
  subst he
  exact ⟨_, rfl, _, _, _, [], _, [], hW', trodAll_mk1 (shut_bool Try.underlying4 _), (trodAll_cons_mk (shut_int Try.underlying2 ws0) (trodAll_cons_mk (shut_int Try.underlying2 ws1) (trodAll_cons_mk (shut_int Try.underlying2 ws2) trodAll_mk0))), rfl, bel.frame _, fun h => by cases h⟩

theorem over : Rows.fnExactNewHandRow.holds Try.pinned (OpenSpec.ofChange Rows.fnExactNewHandSpec) :=
  OpenClaim.holds_of_wide 4 Try.f4 rfl rfl rfl rfl rfl rfl rfl ⟨rfl, rfl, rfl, rfl, rfl⟩ rfl rfl rfl rfl rfl (by kernel_rfl) Try.func4 (by kernel_rfl)
    (of_decide_eq_true (by kernel_rfl)) (by unfold Func.isWrapper; first | (rw [if_pos (by decide +kernel)]; kernel_rfl) | (rw [if_neg (by decide +kernel)]; exact ⟨rfl, rfl⟩))
    (fun os started H enc _ => lifted os started H enc)

/-- the statement -/
theorem proved : Rows.FnExactNewHandSaid := over
end Go.Proofs.Ytodpbghkjnlfdaa.fnExactNewHand

namespace Go.Proofs.Ytodpbghkjnlfdaa
/-- the statement, under its short name -/
theorem fnExactNewHand_holds : Rows.FnExactNewHandSaid := fnExactNewHand.proved
#print axioms fnExactNewHand_holds
end Go.Proofs.Ytodpbghkjnlfdaa
