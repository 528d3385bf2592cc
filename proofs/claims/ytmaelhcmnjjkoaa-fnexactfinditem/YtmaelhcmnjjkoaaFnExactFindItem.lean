/- For every list of things and every text the program's FindItem answers as the model's FindItem and writes into nothing that it was given (the law itself lets off what has over 1048576 things and bytes): the law's call returns true and its arguments read as before; no condition. -/
import Derived.Test.YtmaelhcmnjjkoaaIs2
import Derived.Test.YtmaelhcmnjjkoaaIo4
namespace Go.Proofs.Ytmaelhcmnjjkoaa.fnExactFindItem
open Go.ChangeShapes Go.WideShapes Go.ChangeAt Go.RowKit
open Go.Proofs.Ytmaelhcmnjjkoaa.ce Go.Proofs.Ytmaelhcmnjjkoaa.ro Go.Proofs.Ytmaelhcmnjjkoaa.rg
open Go.ChangeMaps (open_string shut_string)
set_option linter.unusedVariables false

theorem own : ownKnob Try.prog.godebug = none := by kernel_rfl
theorem laidOut : laidOutB Try.prog = true := by kernel_rfl

/-! ### the walk -/
set_option maxRecDepth 100000 in
set_option maxHeartbeats 4000000 in
theorem walk (q : List It) (vq : Value) (s : ByteArray) (w : World) (hv : Rd encLi w vq q) (hlo : Lo q) (hs : s.size ≤ 9223372036854775807) :
    Calls Try.prog 7 #[vq, .string s] w fun e w' => e = .returned (.bool true) ∧ Below w.heap.size w w' := by
  obtain ⟨a, cap, rfl⟩ := hv.form
  have R : Hid (Rd encLi w (.slice a q.length cap) q) := hv
  have HS : Hid (Lo q) := hlo
  clear hv hlo
  have hB : Below w.heap.size w w := Below.refl _ _
  have hzw := hB.size
  obtain ⟨z, hZ⟩ := hid_ex (findI q s)
  have hzz : (z != z) = false := by simp
  by_cases hsl : 1048576 < (s.size : Int)
  · go_enter Try.func7, Try.ntmps7
    go_wp2
    go_ret
    exact ⟨rfl, hB⟩
  go_enter Try.func7, Try.ntmps7
  have mk1 : Hid True := trivial
  go_wp2_with (first | (clear mk1; go_at_call 18; refine (szItems_any q _ 1048576 (by omega) (by omega) _ R.out HS.out).mono ?_; rintro er w1 ⟨Z, rfl, hB1, hr⟩; have hz1 : w.heap.size ≤ w1.heap.size := hB1.size; replace hB := hB.trans (hB1.mono (by omega)); replace hzw := hB.size; by_cases hneg : Z < 0) | (fail))
  · go_ret
    exact ⟨rfl, hB⟩
  have hsm := hr (by omega)
  clear hr
  obtain ⟨hlq, hsq⟩ := hsm
  have HQ : Hid (Sm q) := hsq
  clear hsq
  have mk2 : Hid True := trivial
  have mk3 : Hid True := trivial
  have mk4 : Hid True := trivial
  have mk5 : Hid True := trivial
  have mk6 : Hid True := trivial
  have mk7 : Hid True := trivial
  go_wp2_with (first | (clear mk2; go_at_call 20; refine (toItems_any q _ _ (R.out.grow hB) hlq).mono ?_; rintro er w2 ⟨vt, rfl, ot, hB2⟩; have hz2 : w1.heap.size ≤ w2.heap.size := hB2.size; replace hB := hB.trans (hB2.mono (by omega)); replace hzw := hB.size; obtain ⟨At, Nt, Kt, rfl⟩ := ot.slice) | (clear mk3; go_at_call 23; refine (specFindItem_any q s _ _ ot.rd).mono ?_; rintro er wq ⟨he, hq⟩; subst wq; rw [hZ.out] at he; subst he) | (clear mk4; go_at_call 20; refine (toItems_any q _ _ (R.out.grow hB) hlq).mono ?_; rintro er w3 ⟨vx, rfl, ox, hB3⟩; have hz3 : w2.heap.size ≤ w3.heap.size := hB3.size; replace hB := hB.trans (hB3.mono (by omega)); replace hzw := hB.size; obtain ⟨Ax, Nx, Kx, rfl⟩ := ox.slice) | (clear mk5; go_at_call 24; refine (implFindItem_any q s _ _ ox.rd).mono ?_; rintro er w4 ⟨he, hB4⟩; have hz4 : w3.heap.size ≤ w4.heap.size := hB4.size; replace ox := ox.grow hB4; replace hB := hB.trans (hB4.mono (by omega)); replace hzw := hB.size; rw [hZ.out] at he; subst he) | (clear mk6; go_at_call 20; refine (toItems_any q _ _ (R.out.grow hB) hlq).mono ?_; rintro er w5 ⟨vy, rfl, oy, hB5⟩; have hz5 : w4.heap.size ≤ w5.heap.size := hB5.size; replace ox := ox.grow hB5; replace hB := hB.trans (hB5.mono (by omega)); replace hzw := hB.size; obtain ⟨Ay, Ny, Ky, rfl⟩ := oy.slice) | (clear mk7; go_at_call 22; refine (eqItems_any q _ _ _ ox.rd oy.rd).mono ?_; rintro er w6 ⟨rfl, hB6⟩; have hz6 : w5.heap.size ≤ w6.heap.size := hB6.size; replace ox := ox.grow hB6; replace oy := oy.grow hB6; replace hB := hB.trans (hB6.mono (by omega)); replace hzw := hB.size) | (fail))
  go_ret
  exact ⟨rfl, hB⟩

/-! ### the row, by the frame -/
set_option maxRecDepth 100000 in
theorem lifted (os : Os) (started : os.Started) (H : Type) (enc : TypeId × Value → H) :
    ReturnsInHanded {} Try.checked os 7 .any (Rows.fnExactFindItemSpec.pre6 enc Try.prog Try.f7 Rows.fnExactFindItemRow.domain false) (Rows.fnExactFindItemSpec.post enc Try.prog Try.f7 false true false false) := by
  refine returnsInHanded_of_change (C := Try.checked) own started (by kernel_rfl) Try.func7
    (ChangeSpec.witness6 (enc := enc) (C := Try.checked) false ⟨#[], #[.slice none 0 0, .string ByteArray.empty], []⟩ 8 (by kernel_rfl) (by kernel_rfl) (by kernel_rfl) (by kernel_rfl)) ?_
  intro W base args ds gs before hval0 hW hcnd _
  have hval : ∀ (j : Nat) t v, Try.f7.params[j]? = some t → args[j]? = some v → Value.okWide Try.prog W .any base t v := hval0
  have hW' := hW
  obtain ⟨p, q, hA0, hV, rfl, hfz, hnd⟩ := hW
  have hA : DataW.TrodAll enc Try.prog W 0 (fun _ => true) true Try.f7.params.toList args.toList ds p := hA0
  rw [Try.params7] at hA hval
  obtain ⟨v0, vs0, d0, ds0, p0, q0, hargs, rfl, rfl, h0, r0⟩ := trodAll_cons hA
  obtain ⟨v1, vs1, d1, ds1, p1, q1, rfl, rfl, rfl, h1, r1⟩ := trodAll_cons r0
  obtain ⟨rfl, rfl, rfl⟩ := trodAll_nil r1
  obtain rfl : args = #[v0, v1] := by cases args; simp_all
  obtain ⟨rfl, rfl⟩ := trodVars_none hV
  have k0 := h0
  have lt0 : ∀ x ∈ p0, x.block < W.heap.size := by obtain ⟨m, hm⟩ := k0; exact DataW.trod_lt m _ _ _ hm
  obtain ⟨L0, hR0, hS0⟩ := open_items (hval 0 32 v0 rfl rfl) h0
  obtain ⟨a1, rfl, rfl, rfl, ws1⟩ := open_string Try.underlying9 (hval 1 9 v1 rfl rfl) h1
  clear hA0 hval0
  refine (walk L0 v0 a1 W hR0 hS0 ws1).mono fun e W' ⟨he, bel⟩ => ?_
  subst he
  exact ⟨_, rfl, _, _, _, [], _, [], hW', trodAll_mk1 (shut_bool Try.underlying4 _), (trodAll_cons_mk (Below.trod laidOut (by kernel_rfl) (of_decide_eq_true (by kernel_rfl)) k0 bel lt0) (trodAll_cons_mk (shut_string Try.underlying9 ws1) trodAll_mk0)), rfl, bel.frame _, fun h => by cases h⟩

theorem over : Rows.fnExactFindItemRow.holds Try.pinned (OpenSpec.ofChange Rows.fnExactFindItemSpec) :=
  OpenClaim.holds_of_wide 7 Try.f7 rfl rfl rfl rfl rfl rfl rfl ⟨rfl, rfl, rfl, rfl, rfl⟩ rfl rfl rfl rfl rfl (by kernel_rfl) Try.func7 (by kernel_rfl)
    (of_decide_eq_true (by kernel_rfl)) (by unfold Func.isWrapper; first | (rw [if_pos (by decide +kernel)]; kernel_rfl) | (rw [if_neg (by decide +kernel)]; exact ⟨rfl, rfl⟩))
    (fun os started H enc _ => lifted os started H enc)

/-- the statement -/
theorem proved : Rows.FnExactFindItemSaid := over
end Go.Proofs.Ytmaelhcmnjjkoaa.fnExactFindItem

namespace Go.Proofs.Ytmaelhcmnjjkoaa
/-- the statement, under its short name -/
theorem fnExactFindItem_holds : Rows.FnExactFindItemSaid := fnExactFindItem.proved
#print axioms fnExactFindItem_holds
end Go.Proofs.Ytmaelhcmnjjkoaa
