/- For all cells and hands the program's HandOk answers as the model's HandOk and writes into nothing that it was given (the law itself lets off what is over 1048576 cells): the law's call returns true and its arguments read as before; no condition. -/
import Derived.Test.YtodpbghkjnlfdaaMg04
import Derived.Test.YtodpbghkjnlfdaaIh7
namespace Go.Proofs.Ytodpbghkjnlfdaa.fnExactHandOk
open Go.ChangeShapes Go.WideShapes Go.ChangeAt Go.RowKit
open Go.Proofs.Ytodpbghkjnlfdaa.ce
set_option linter.unusedVariables false

theorem own : ownKnob Try.prog.godebug = none := by kernel_rfl
theorem laidOut : laidOutB Try.prog = true := by kernel_rfl

/-! ### the walk -/
set_option maxRecDepth 100000 in
set_option maxHeartbeats 4000000 in
theorem walk (v : Value) (H : List C) (d : Hd) (w : World) (hvv : Rd w w.heap.size v H) :
    Calls Try.prog 3 #[v, .agg (hv d).toArray] w fun e w' => e = .returned (.bool true) ∧ Below w.heap.size w w' := by
  have hl := hvv.len
  obtain ⟨a, cap, rfl⟩ := hvv.form
  have hV : Hid (Rd w w.heap.size (.slice a H.length cap) H) := hvv
  clear hvv
  obtain ⟨z, hz⟩ := hid_ex (handB H d)
  have hzz : (z != z) = false := by simp
  obtain ⟨k, x, y, s, l, e, o, t⟩ := d
  have m1 : Hid True := trivial
  have m2 : Hid True := trivial
  have m3 : Hid True := trivial
  have m4 : Hid True := trivial
  have m5 : Hid True := trivial
  have m6 : Hid True := trivial
  have m7 : Hid True := trivial
  have m8 : Hid True := trivial
  go_enter Try.func3, Try.ntmps3
  go_wp2_with (first | (clear m1; refine wpList_box_v rfl 24 _ rfl (hv ⟨k, x, y, s, l, e, o, t⟩) rfl ?_; intro b0 w1 hb0 hw1 hB1 hV1; have hz1 := hB1.size; have ha : HArg w1 b0 ⟨k, x, y, s, l, e, o, t⟩ := ⟨hV1⟩) | (go_at_call 9; refine (szCells _ _ _ hl _).mono ?_; rintro er wq ⟨r, rfl, hq, hr⟩; subst wq; by_cases hneg : r < 0) | (fail))
  · go_ret
    exact ⟨rfl, hB1⟩
  have S1 := ha.drew.cells
  go_region_held3 (fun w' => (w'.cell? ⟨b0, 0, none⟩ = some (.int .i64 k) ∧ w'.cell? ⟨b0, 1, none⟩ = some (.int .i64 x) ∧ w'.cell? ⟨b0, 2, none⟩ = some (.int .i64 y) ∧ w'.cell? ⟨b0, 3, none⟩ = some (.int .i64 s) ∧ w'.cell? ⟨b0, 4, none⟩ = some (.int .i64 l) ∧ w'.cell? ⟨b0, 5, none⟩ = some (.int .i64 e) ∧ w'.cell? ⟨b0, 6, none⟩ = some (.int .i64 o) ∧ w'.cell? ⟨b0, 7, none⟩ = some (.int .i64 t))) (first | assumption | exact S1) (first | (clear m2; go_at_call 11; refine (toCells_any H _ w.heap.size w1.drew (by show w.heap.size ≤ w1.heap.size; omega) (hV.out.below hB1.drew (Nat.le_refl _)) (hr (by omega))).mono ?_; rintro er w2 ⟨va, rfl, hoa, hB2⟩; have hz2 : w1.heap.size ≤ w2.heap.size := hB2.size; have ha2 := ha.drew.below hB2 (by show b0 + 1 ≤ w1.heap.size; omega); have S2 := ha2.cells) | (clear m3; go_at_call 12; refine (toHand_any ⟨k, x, y, s, l, e, o, t⟩ w2).mono ?_; rintro er w3 ⟨rfl, hB3⟩; have hz3 : w2.heap.size ≤ w3.heap.size := hB3.size; replace hoa := hoa.below hB3 (by omega); have ha3 := ha2.below hB3 (by omega); have S3 := ha3.cells) | (go_at_call 10; refine (specHandOk_any H ⟨k, x, y, s, l, e, o, t⟩ _ w2.heap.size w3 (by omega) hoa.rd).mono ?_; rintro er w4 ⟨he, hB4⟩; have hz4 : w3.heap.size ≤ w4.heap.size := hB4.size; rw [hz.out] at he; subst he; have ha4 := ha3.below hB4 (by omega); have S4 := ha4.cells) | (fail))
  have hB : Below w.heap.size w w4 := ((hB1.drew.trans (hB2.mono (by show w.heap.size ≤ w1.heap.size; omega))).trans (hB3.mono (by omega))).trans (hB4.mono (by omega))
  have hzw := hB.size
  go_wp2_with (first | (clear m4; go_at_call 11; refine (toCells_any H _ w.heap.size _ (by omega) (hV.out.below hB (Nat.le_refl _)) (hr (by omega))).mono ?_; rintro er w5 ⟨vx, rfl, hox, hB5⟩; have hz5 : w4.heap.size ≤ w5.heap.size := hB5.size; replace hB := hB.trans (hB5.mono (by omega)); have ha5 := ha4.below hB5 (by omega); obtain ⟨c0, c1, c2, c3, c4, c5, c6, c7⟩ := ha5.cells) | (go_at_call 12; refine (toHand_any ⟨k, x, y, s, l, e, o, t⟩ w5).mono ?_; rintro er w6 ⟨rfl, hB6⟩; have hz6 : w5.heap.size ≤ w6.heap.size := hB6.size; replace hox := hox.below hB6 (by omega); replace hB := hB.trans (hB6.mono (by omega))) | (go_at_call 13; refine (implHandOk_any H ⟨k, x, y, s, l, e, o, t⟩ _ w5.heap.size _ (by omega) hox.rd).mono ?_; rintro er w7 ⟨he, hB7⟩; have hz7 : w6.heap.size ≤ w7.heap.size := hB7.size; rw [hz.out] at he; subst he; replace hox := hox.below hB7 (by omega); replace hB := hB.trans (hB7.mono (by omega)); replace hzw := hB.size) | (clear m5; go_at_call 11; refine (toCells_any H _ w.heap.size _ (by omega) (hV.out.below hB (Nat.le_refl _)) (hr (by omega))).mono ?_; rintro er w8 ⟨vb, rfl, hob, hB8⟩; have hz8 : w7.heap.size ≤ w8.heap.size := hB8.size; replace hox := hox.below hB8 (by omega); replace hB := hB.trans (hB8.mono (by omega))) | (go_at_call 14; refine (eqCells_any H _ _ w5.heap.size w8.heap.size _ (by omega) (Nat.le_refl _) hox.rd hob.rd).mono ?_; rintro er w9 ⟨rfl, hB9⟩; replace hB := hB.trans (hB9.mono (by omega))) | (fail))
  go_ret
  exact ⟨rfl, hB⟩


/-! ### the row, by the frame -/
set_option maxRecDepth 100000 in
theorem lifted (os : Os) (started : os.Started) (H : Type) (enc : TypeId × Value → H) :
    ReturnsInHanded {} Try.checked os 3 .any (Rows.fnExactHandOkSpec.pre6 enc Try.prog Try.f3 Rows.fnExactHandOkRow.domain false) (Rows.fnExactHandOkSpec.post enc Try.prog Try.f3 false true false false) := by
  refine returnsInHanded_of_change (C := Try.checked) own started (by kernel_rfl) Try.func3
    (ChangeSpec.witness6 (enc := enc) (C := Try.checked) false ⟨#[], #[.slice none 0 0, .agg #[.int .i64 0, .int .i64 0, .int .i64 0, .int .i64 0, .int .i64 0, .int .i64 0, .int .i64 0, .int .i64 0]], []⟩ 8 (by kernel_rfl) (by kernel_rfl) (by kernel_rfl) (by kernel_rfl)) ?_
  intro W base args ds gs before hval0 hW hcnd _
  have hval : ∀ (j : Nat) t v, Try.f3.params[j]? = some t → args[j]? = some v → Value.okWide Try.prog W .any base t v := hval0
  have hW' := hW
  obtain ⟨p, q, hA0, hV, rfl, hfz, hnd⟩ := hW
  have hA : DataW.TrodAll enc Try.prog W 0 (fun _ => true) true Try.f3.params.toList args.toList ds p := hA0
  rw [Try.params3] at hA hval
  obtain ⟨v0, vs0, d0, ds0, p0, q0, hargs, rfl, rfl, h0, r0⟩ := trodAll_cons hA
  obtain ⟨v1, vs1, d1, ds1, p1, q1, rfl, rfl, rfl, h1, r1⟩ := trodAll_cons r0
  obtain ⟨rfl, rfl, rfl⟩ := trodAll_nil r1
  obtain rfl : args = #[v0, v1] := by cases args; simp_all
  obtain ⟨rfl, rfl⟩ := trodVars_none hV
  have k0 := h0
  have lt0 : ∀ x ∈ p0, x.block < W.heap.size := by obtain ⟨m, hm⟩ := k0; exact DataW.trod_lt m _ _ _ hm
  obtain ⟨L, hR⟩ := open_cells (hval 0 22 v0 rfl rfl) h0
  have k1 := h1
  have lt1 : ∀ x ∈ p1, x.block < W.heap.size := by obtain ⟨m, hm⟩ := k1; exact DataW.trod_lt m _ _ _ hm
  obtain ⟨hd1, rfl⟩ := open_hand (hval 1 24 v1 rfl rfl) h1
  clear hA0 hval0
  refine (walk v0 L hd1 W hR).mono fun e W' ⟨he, bel⟩ => ?_
  subst he
  exact ⟨_, rfl, _, _, _, [], _, [], hW', trodAll_mk1 (shut_bool Try.underlying4 _), (trodAll_cons_mk (Below.trod laidOut (by kernel_rfl) (of_decide_eq_true (by kernel_rfl)) k0 bel lt0) (trodAll_cons_mk (Below.trod laidOut (by kernel_rfl) (of_decide_eq_true (by kernel_rfl)) k1 bel lt1) trodAll_mk0)), rfl, bel.frame _, fun h => by cases h⟩

theorem over : Rows.fnExactHandOkRow.holds Try.pinned (OpenSpec.ofChange Rows.fnExactHandOkSpec) :=
  OpenClaim.holds_of_wide 3 Try.f3 rfl rfl rfl rfl rfl rfl rfl ⟨rfl, rfl, rfl, rfl, rfl⟩ rfl rfl rfl rfl rfl (by kernel_rfl) Try.func3 (by kernel_rfl)
    (of_decide_eq_true (by kernel_rfl)) (by unfold Func.isWrapper; first | (rw [if_pos (by decide +kernel)]; kernel_rfl) | (rw [if_neg (by decide +kernel)]; exact ⟨rfl, rfl⟩))
    (fun os started H enc _ => lifted os started H enc)

/-- the statement -/
theorem proved : Rows.FnExactHandOkSaid := over
end Go.Proofs.Ytodpbghkjnlfdaa.fnExactHandOk

namespace Go.Proofs.Ytodpbghkjnlfdaa
/-- the statement, under its short name -/
theorem fnExactHandOk_holds : Rows.FnExactHandOkSaid := fnExactHandOk.proved
#print axioms fnExactHandOk_holds
end Go.Proofs.Ytodpbghkjnlfdaa
