/- For every list of things and every moment the program's DueBy answers as the model's DueBy, in memory of its own, and writes into nothing that it was given (the law itself lets off what has over 1048576 things and bytes): the law's call returns true and its arguments read as before; no condition. -/
import Derived.Test.YtmnjmghlkiljhaaRs2
import Derived.Test.YtmnjmghlkiljhaaIs2
import Derived.Test.YtmnjmghlkiljhaaMkIt
import Derived.Test.YtmnjmghlkiljhaaWh9
import Derived.Test.YtmnjmghlkiljhaaWi3
namespace Go.Proofs.Ytmnjmghlkiljhaa.fnExactDueBy
open Go.ChangeShapes Go.WideShapes Go.ChangeAt Go.RowKit
open Go.Proofs.Ytmnjmghlkiljhaa.ce Go.Proofs.Ytmnjmghlkiljhaa.ro Go.Proofs.Ytmnjmghlkiljhaa.rg
open Go.ChangeMaps (open_string shut_string)
set_option linter.unusedVariables false

theorem own : ownKnob Try.prog.godebug = none := by kernel_rfl
theorem laidOut : laidOutB Try.prog = true := by kernel_rfl

/-! ### the walk -/
set_option maxRecDepth 100000 in
set_option maxHeartbeats 4000000 in
theorem walk (q : List It) (vq : Value) (now : Int) (w : World) (hv : Rd encLi w vq q) (hlo : Lo q) :
    Calls Try.prog 5 #[vq, .int .i64 now] w fun e w' => e = .returned (.bool true) ∧ Below w.heap.size w w' := by
  obtain ⟨a, cap, rfl⟩ := hv.form
  have R : Hid (Rd encLi w (.slice a q.length cap) q) := hv
  have HS : Hid (Lo q) := hlo
  clear hv hlo
  have hB : Below w.heap.size w w := Below.refl _ _
  have hzw := hB.size
  have hsN : (duR q now).length ≤ 20 := by
    obtain ⟨-, h2, D, h3, -, h4⟩ := wait_due q now
    rw [← h4, List.length_map, h3.length_eq]; exact h2
  obtain ⟨J, hJ⟩ := hid_ex (duR q now)
  rw [hJ.out] at hsN
  obtain ⟨mk, hmk⟩ : ∃ m : Nat, Hid (m = 1 + 5 * q.length) := ⟨_, rfl⟩
  obtain ⟨mj, hmj⟩ : ∃ m : Nat, Hid (m = 1 + J.length) := ⟨_, rfl⟩
  have hsd : decide ((mk : Int) < 0) = false := decide_eq_false (by omega)
  have hsd2 : ¬ ((mk : Int) < 0) := by omega
  have hsn : ¬ ((mj : Int) < 0) := by omega
  have hse : ((mj : Int) != (mj : Int)) = false := by simp
  go_enter Try.func5, Try.ntmps5
  have mk1 : Hid True := trivial
  go_wp2_with (first | (clear mk1; go_at_call 39; refine (szItems_any q _ 1048576 (by omega) (by omega) _ R.out HS.out).mono ?_; rintro er w0 ⟨Z, rfl, hB0, hr⟩; have hz0 : w.heap.size ≤ w0.heap.size := hB0.size; replace hB := hB.trans (hB0.mono (by omega)); replace hzw := hB.size; by_cases hneg : Z < 0) | (fail))
  · go_ret
    exact ⟨rfl, hB⟩
  have hsm := hr (by omega)
  clear hr
  obtain ⟨hlq, hsq⟩ := hsm
  have HQ : Hid (SmK q) := hsq
  clear hsq
  have mk2 : Hid True := trivial
  have mk3 : Hid True := trivial
  have mk4 : Hid True := trivial
  have mk5 : Hid True := trivial
  have mk6 : Hid True := trivial
  have mk7 : Hid True := trivial
  have mk8 : Hid True := trivial
  have mk9 : Hid True := trivial
  have mk10 : Hid True := trivial
  have mk11 : Hid True := trivial
  have mk12 : Hid True := trivial
  have mk13 : Hid True := trivial
  have mk14 : Hid True := trivial
  have mk15 : Hid True := trivial
  have mk16 : Hid True := trivial
  go_wp2_with (first | (clear mk2; go_at_call 40; refine (toItems_any q _ _ (R.out.grow hB) hlq).mono ?_; rintro er w1 ⟨vt, rfl, ot, hB1⟩; have hz1 : w0.heap.size ≤ w1.heap.size := hB1.size; replace hB := hB.trans (hB1.mono (by omega)); replace hzw := hB.size; obtain ⟨At, Nt, Kt, rfl⟩ := ot.slice) | (clear mk3; go_at_call 31; refine (specDueBy_any q now _ _ ot.rd HQ.out).mono ?_; rintro er w2 ⟨vw, rfl, ow, hB2⟩; have hz2 : w1.heap.size ≤ w2.heap.size := hB2.size; replace hB := hB.trans (hB2.mono (by omega)); replace hzw := hB.size; rw [hJ.out] at ow; obtain ⟨Aw, Nw, Kw, rfl⟩ := ow.slice) | (clear mk4; go_at_call 40; refine (toItems_any q _ _ (R.out.grow hB) hlq).mono ?_; rintro er w3 ⟨vx, rfl, ox, hB3⟩; have hz3 : w2.heap.size ≤ w3.heap.size := hB3.size; replace ow := ow.grow hB3; replace hB := hB.trans (hB3.mono (by omega)); replace hzw := hB.size; obtain ⟨Ax, Nx, Kx, rfl⟩ := ox.slice) | (clear mk5; go_at_call 28; refine (implDueBy_any q now _ _ ox.rd HQ.out).mono ?_; rintro er w4 ⟨vg, rfl, og, hB4⟩; have hz4 : w3.heap.size ≤ w4.heap.size := hB4.size; replace ow := ow.grow hB4; replace ox := ox.grow hB4; replace hB := hB.trans (hB4.mono (by omega)); replace hzw := hB.size; rw [hJ.out] at og; obtain ⟨Ag, Ng, Kg, rfl⟩ := og.slice) | (clear mk6; go_at_call 41; refine (eqTexts_any J _ _ _ og.rd ow.rd).mono ?_; rintro er w5 ⟨rfl, hB5⟩; have hz5 : w4.heap.size ≤ w5.heap.size := hB5.size; replace ow := ow.grow hB5; replace ox := ox.grow hB5; replace og := og.grow hB5; replace hB := hB.trans (hB5.mono (by omega)); replace hzw := hB.size) | (clear mk7; go_at_call 40; refine (toItems_any q _ _ (R.out.grow hB) hlq).mono ?_; rintro er w6 ⟨vy, rfl, oy, hB6⟩; have hz6 : w5.heap.size ≤ w6.heap.size := hB6.size; replace ow := ow.grow hB6; replace ox := ox.grow hB6; replace og := og.grow hB6; replace hB := hB.trans (hB6.mono (by omega)); replace hzw := hB.size; obtain ⟨Ay, Ny, Ky, rfl⟩ := oy.slice) | (clear mk8; go_at_call 42; refine (eqItems_any q _ _ _ ox.rd oy.rd).mono ?_; rintro er w7 ⟨rfl, hB7⟩; have hz7 : w6.heap.size ≤ w7.heap.size := hB7.size; replace ow := ow.grow hB7; replace ox := ox.grow hB7; replace og := og.grow hB7; replace oy := oy.grow hB7; replace hB := hB.trans (hB7.mono (by omega)); replace hzw := hB.size) | (clear mk9; go_at_call 43; refine (markIts_any q _ _ _ 1 (by omega) (by omega) mk hmk.out _ ox (by omega)).mono ?_; rintro er w8 ⟨rfl, -, hM8, -⟩; have hz8 : w7.heap.size ≤ w8.heap.size := hM8.size; replace ow := ow.within hM8 (by omega); replace og := og.within hM8 (by omega); replace hB := hB.trans (hM8.below (by omega) (by omega)); replace hzw := hB.size) | (clear mk10; go_at_call 41; refine (eqTexts_any J _ _ _ og.rd ow.rd).mono ?_; rintro er w9 ⟨rfl, hB9⟩; have hz9 : w8.heap.size ≤ w9.heap.size := hB9.size; replace ow := ow.grow hB9; replace og := og.grow hB9; replace hB := hB.trans (hB9.mono (by omega)); replace hzw := hB.size) | (clear mk11; go_at_call 44; refine (markTexts_any J _ _ _ 1 (by omega) (by omega) mj hmj.out _ og).mono ?_; rintro er w10 ⟨rfl, pg, hM10, -⟩; have hz10 : w9.heap.size ≤ w10.heap.size := hM10.size; replace ow := ow.within hM10 (by omega); replace hB := hB.trans (hM10.below (by omega) (by omega)); replace hzw := hB.size) | (clear mk12; go_at_call 45; refine (heldTexts_any J.length _ 1 (by omega) (by omega) mj hmj.out _ pg.rd).mono ?_; rintro er w11 ⟨rfl, hB11⟩; have hz11 : w10.heap.size ≤ w11.heap.size := hB11.size; replace ow := ow.grow hB11; replace pg := pg.grow hB11; replace hB := hB.trans (hB11.mono (by omega)); replace hzw := hB.size) | (clear mk13; go_at_call 40; refine (toItems_any q _ _ (R.out.grow hB) hlq).mono ?_; rintro er w12 ⟨vs, rfl, os, hB12⟩; have hz12 : w11.heap.size ≤ w12.heap.size := hB12.size; replace ow := ow.grow hB12; replace pg := pg.grow hB12; replace hB := hB.trans (hB12.mono (by omega)); replace hzw := hB.size; obtain ⟨As, Ns, Ks, rfl⟩ := os.slice) | (clear mk14; go_at_call 28; refine (implDueBy_any q now _ _ os.rd HQ.out).mono ?_; rintro er w13 ⟨vh, rfl, oh, hB13⟩; have hz13 : w12.heap.size ≤ w13.heap.size := hB13.size; replace ow := ow.grow hB13; replace pg := pg.grow hB13; replace hB := hB.trans (hB13.mono (by omega)); replace hzw := hB.size; rw [hJ.out] at oh; obtain ⟨Ah, Nh, Kh, rfl⟩ := oh.slice) | (clear mk15; go_at_call 41; refine (eqTexts_any J _ _ _ oh.rd ow.rd).mono ?_; rintro er w14 ⟨rfl, hB14⟩; have hz14 : w13.heap.size ≤ w14.heap.size := hB14.size; replace ow := ow.grow hB14; replace pg := pg.grow hB14; replace oh := oh.grow hB14; replace hB := hB.trans (hB14.mono (by omega)); replace hzw := hB.size) | (clear mk16; go_at_call 45; refine (heldTexts_any J.length _ 1 (by omega) (by omega) mj hmj.out _ pg.rd).mono ?_; rintro er w15 ⟨rfl, hB15⟩; have hz15 : w14.heap.size ≤ w15.heap.size := hB15.size; replace ow := ow.grow hB15; replace pg := pg.grow hB15; replace oh := oh.grow hB15; replace hB := hB.trans (hB15.mono (by omega)); replace hzw := hB.size) | (fail))
  go_ret
  exact ⟨rfl, hB⟩

/-! ### the row, by the frame -/
set_option maxRecDepth 100000 in
theorem lifted (os : Os) (started : os.Started) (H : Type) (enc : TypeId × Value → H) :
    ReturnsInHanded {} Try.checked os 5 .any (Rows.fnExactDueBySpec.pre6 enc Try.prog Try.f5 Rows.fnExactDueByRow.domain false) (Rows.fnExactDueBySpec.post enc Try.prog Try.f5 false true false false) := by
  refine returnsInHanded_of_change (C := Try.checked) own started (by kernel_rfl) Try.func5
    (ChangeSpec.witness6 (enc := enc) (C := Try.checked) false ⟨#[], #[.slice none 0 0, .int .i64 0], []⟩ 8 (by kernel_rfl) (by kernel_rfl) (by kernel_rfl) (by kernel_rfl)) ?_
  intro W base args ds gs before hval0 hW hcnd _
  have hval : ∀ (j : Nat) t v, Try.f5.params[j]? = some t → args[j]? = some v → Value.okWide Try.prog W .any base t v := hval0
  have hW' := hW
  obtain ⟨p, q, hA0, hV, rfl, hfz, hnd⟩ := hW
  have hA : DataW.TrodAll enc Try.prog W 0 (fun _ => true) true Try.f5.params.toList args.toList ds p := hA0
  rw [Try.params5] at hA hval
  obtain ⟨v0, vs0, d0, ds0, p0, q0, hargs, rfl, rfl, h0, r0⟩ := trodAll_cons hA
  obtain ⟨v1, vs1, d1, ds1, p1, q1, rfl, rfl, rfl, h1, r1⟩ := trodAll_cons r0
  obtain ⟨rfl, rfl, rfl⟩ := trodAll_nil r1
  obtain rfl : args = #[v0, v1] := by cases args; simp_all
  obtain ⟨rfl, rfl⟩ := trodVars_none hV
  have k0 := h0
  have lt0 : ∀ x ∈ p0, x.block < W.heap.size := by obtain ⟨m, hm⟩ := k0; exact DataW.trod_lt m _ _ _ hm
  obtain ⟨L0, hR0, hS0⟩ := open_items (hval 0 61 v0 rfl rfl) h0
  obtain ⟨a1, rfl, rfl, rfl, ws1⟩ := open_int Try.underlying2 (hval 1 2 v1 rfl rfl) h1
  clear hA0 hval0
  refine (walk L0 v0 a1 W hR0 hS0).mono fun e W' ⟨he, bel⟩ => ?_
  subst he
  exact ⟨_, rfl, _, _, _, [], _, [], hW', trodAll_mk1 (shut_bool Try.underlying4 _), (trodAll_cons_mk (Below.trod laidOut (by kernel_rfl) (of_decide_eq_true (by kernel_rfl)) k0 bel lt0) (trodAll_cons_mk (shut_int Try.underlying2 ws1) trodAll_mk0)), rfl, bel.frame _, fun h => by cases h⟩

theorem over : Rows.fnExactDueByRow.holds Try.pinned (OpenSpec.ofChange Rows.fnExactDueBySpec) :=
  OpenClaim.holds_of_wide 5 Try.f5 rfl rfl rfl rfl rfl rfl rfl ⟨rfl, rfl, rfl, rfl, rfl⟩ rfl rfl rfl rfl rfl (by kernel_rfl) Try.func5 (by kernel_rfl)
    (of_decide_eq_true (by kernel_rfl)) (by unfold Func.isWrapper; first | (rw [if_pos (by decide +kernel)]; kernel_rfl) | (rw [if_neg (by decide +kernel)]; exact ⟨rfl, rfl⟩))
    (fun os started H enc _ => lifted os started H enc)

/-- the statement -/
theorem proved : Rows.FnExactDueBySaid := over
end Go.Proofs.Ytmnjmghlkiljhaa.fnExactDueBy

namespace Go.Proofs.Ytmnjmghlkiljhaa
/-- the statement, under its short name -/
theorem fnExactDueBy_holds : Rows.FnExactDueBySaid := fnExactDueBy.proved
#print axioms fnExactDueBy_holds
end Go.Proofs.Ytmnjmghlkiljhaa
