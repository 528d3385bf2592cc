/- For every thing the program's WeightOf answers as the model's WeightOf (the law itself lets off what has over 1048576 things and bytes): the law's call returns true and its arguments read as before; no condition. -/
import Derived.Test.YtmaelhcmnjjkoaaIs2
import Derived.Test.YtmaelhcmnjjkoaaIo2
namespace Go.Proofs.Ytmaelhcmnjjkoaa.fnExactWeightOf
open Go.ChangeShapes Go.WideShapes Go.ChangeAt Go.RowKit
open Go.Proofs.Ytmaelhcmnjjkoaa.ce Go.Proofs.Ytmaelhcmnjjkoaa.ro Go.Proofs.Ytmaelhcmnjjkoaa.rg
open Go.ChangeMaps (open_string shut_string)
set_option linter.unusedVariables false

theorem own : ownKnob Try.prog.godebug = none := by kernel_rfl
theorem laidOut : laidOutB Try.prog = true := by kernel_rfl

/-! ### the walk -/
set_option maxRecDepth 100000 in
set_option maxHeartbeats 4000000 in
theorem walk (N B : ByteArray) (F C U : Int) (w : World) (hN : N.size ≤ 9223372036854775807) (hB0 : B.size ≤ 9223372036854775807) :
    Calls Try.prog 4 #[.agg #[.string N, .int .i64 F, .string B, .int .i64 C, .int .i64 U]] w fun e w' => e = .returned (.bool true) ∧ Below w.heap.size w w' := by
  obtain ⟨z, hZ⟩ := hid_ex (wtI ⟨N, F, B, C, U⟩)
  have hzz : (z != z) = false := by simp
  go_enter Try.func4, Try.ntmps4
  have mk1 : Hid True := trivial
  have mk2 : Hid True := trivial
  have mk3 : Hid True := trivial
  have mk4 : Hid True := trivial
  have mk5 : Hid True := trivial
  have mk6 : Hid True := trivial
  have mk7 : Hid True := trivial
  have mk8 : Hid True := trivial
  have mk9 : Hid True := trivial
  go_wp2_with (first | (clear mk1; refine wpList_box_v rfl 23 _ rfl [.string N, .int .i64 F, .string B, .int .i64 C, .int .i64 U] rfl ?_; intro bA w1 hbA hwbA hB1 cA; have hz1 : w.heap.size ≤ w1.heap.size := hB1.size; have hB := hB1; have hzw := hB.size) | (clear mk2; refine wpList_load_r rfl 23 _ rfl bA 0 [.string N, .int .i64 F, .string B, .int .i64 C, .int .i64 U] rfl _ Try.underlying23 rfl sizeLi cA.range ?_) | (clear mk3; go_at_call 10; refine (szItem_any N B F C U hN hB0 1048576 (by omega) (by omega) _).mono ?_; rintro er w2 ⟨Z, rfl, hB2, -, hr⟩; have hz2 : w1.heap.size ≤ w2.heap.size := hB2.size; replace hB := hB.trans (hB2.mono (by omega)); replace hzw := hB.size; replace cA := vblk_grow cA hB2; by_cases hneg : Z < 0) | (clear mk4; refine wpList_load_r rfl 23 _ rfl bA 0 [.string N, .int .i64 F, .string B, .int .i64 C, .int .i64 U] rfl _ Try.underlying23 rfl sizeLi cA.range ?_) | (clear mk5; go_at_call 12; refine (toItem_any N B F C U _).mono ?_; rintro er w3 ⟨rfl, hB3⟩; have hz3 : w2.heap.size ≤ w3.heap.size := hB3.size; replace hB := hB.trans (hB3.mono (by omega)); replace hzw := hB.size; replace cA := vblk_grow cA hB3) | (clear mk6; go_at_call 14; refine (specWeightOf_any N B F C U _ hZ (hr (by omega)).1 (hr (by omega)).2 _).mono ?_; rintro er w4 ⟨rfl, hB4⟩; have hz4 : w3.heap.size ≤ w4.heap.size := hB4.size; replace hB := hB.trans (hB4.mono (by omega)); replace hzw := hB.size; replace cA := vblk_grow cA hB4) | (clear mk7; refine wpList_load_r rfl 23 _ rfl bA 0 [.string N, .int .i64 F, .string B, .int .i64 C, .int .i64 U] rfl _ Try.underlying23 rfl sizeLi cA.range ?_) | (clear mk8; go_at_call 12; refine (toItem_any N B F C U _).mono ?_; rintro er w5 ⟨rfl, hB5⟩; have hz5 : w4.heap.size ≤ w5.heap.size := hB5.size; replace hB := hB.trans (hB5.mono (by omega)); replace hzw := hB.size; replace cA := vblk_grow cA hB5) | (clear mk9; go_at_call 15; refine (implWeightOf_any N B F C U _ hZ (hr (by omega)).1 (hr (by omega)).2 _).mono ?_; rintro er w6 ⟨rfl, hB6⟩; have hz6 : w5.heap.size ≤ w6.heap.size := hB6.size; replace hB := hB.trans (hB6.mono (by omega)); replace hzw := hB.size; replace cA := vblk_grow cA hB6) | (fail))
  · go_ret
    exact ⟨rfl, hB⟩
  · go_ret
    exact ⟨rfl, hB⟩

/-! ### the row, by the frame -/
set_option maxRecDepth 100000 in
theorem lifted (os : Os) (started : os.Started) (H : Type) (enc : TypeId × Value → H) :
    ReturnsInHanded {} Try.checked os 4 .any (Rows.fnExactWeightOfSpec.pre6 enc Try.prog Try.f4 Rows.fnExactWeightOfRow.domain false) (Rows.fnExactWeightOfSpec.post enc Try.prog Try.f4 false true false false) := by
  refine returnsInHanded_of_change (C := Try.checked) own started (by kernel_rfl) Try.func4
    (ChangeSpec.witness6 (enc := enc) (C := Try.checked) false ⟨#[], #[.agg #[.string ByteArray.empty, .int .i64 0, .string ByteArray.empty, .int .i64 0, .int .i64 0]], []⟩ 8 (by kernel_rfl) (by kernel_rfl) (by kernel_rfl) (by kernel_rfl)) ?_
  intro W base args ds gs before hval0 hW hcnd _
  have hval : ∀ (j : Nat) t v, Try.f4.params[j]? = some t → args[j]? = some v → Value.okWide Try.prog W .any base t v := hval0
  have hW' := hW
  obtain ⟨p, q, hA0, hV, rfl, hfz, hnd⟩ := hW
  have hA : DataW.TrodAll enc Try.prog W 0 (fun _ => true) true Try.f4.params.toList args.toList ds p := hA0
  rw [Try.params4] at hA hval
  obtain ⟨v0, vs0, d0, ds0, p0, q0, hargs, rfl, rfl, h0, r0⟩ := trodAll_cons hA
  obtain ⟨rfl, rfl, rfl⟩ := trodAll_nil r0
  obtain rfl : args = #[v0] := by cases args; simp_all
  obtain ⟨rfl, rfl⟩ := trodVars_none hV
  have k0 := h0
  have lt0 : ∀ x ∈ p0, x.block < W.heap.size := by obtain ⟨m, hm⟩ := k0; exact DataW.trod_lt m _ _ _ hm
  obtain ⟨N0, F0, B0, C0, U0, rfl, sN0, sB0⟩ := open_item (hval 0 23 v0 rfl rfl) h0
  clear hA0 hval0
  refine (walk N0 B0 F0 C0 U0 W sN0 sB0).mono fun e W' ⟨he, bel⟩ => ?_
  subst he
  exact ⟨_, rfl, _, _, _, [], _, [], hW', trodAll_mk1 (shut_bool Try.underlying4 _), (trodAll_cons_mk (Below.trod laidOut (by kernel_rfl) (of_decide_eq_true (by kernel_rfl)) k0 bel lt0) trodAll_mk0), rfl, bel.frame _, fun h => by cases h⟩

theorem over : Rows.fnExactWeightOfRow.holds Try.pinned (OpenSpec.ofChange Rows.fnExactWeightOfSpec) :=
  OpenClaim.holds_of_wide 4 Try.f4 rfl rfl rfl rfl rfl rfl rfl ⟨rfl, rfl, rfl, rfl, rfl⟩ rfl rfl rfl rfl rfl (by kernel_rfl) Try.func4 (by kernel_rfl)
    (of_decide_eq_true (by kernel_rfl)) (by unfold Func.isWrapper; first | (rw [if_pos (by decide +kernel)]; kernel_rfl) | (rw [if_neg (by decide +kernel)]; exact ⟨rfl, rfl⟩))
    (fun os started H enc _ => lifted os started H enc)

/-- the statement -/
theorem proved : Rows.FnExactWeightOfSaid := over
end Go.Proofs.Ytmaelhcmnjjkoaa.fnExactWeightOf

namespace Go.Proofs.Ytmaelhcmnjjkoaa
/-- the statement, under its short name -/
theorem fnExactWeightOf_holds : Rows.FnExactWeightOfSaid := fnExactWeightOf.proved
#print axioms fnExactWeightOf_holds
end Go.Proofs.Ytmaelhcmnjjkoaa
