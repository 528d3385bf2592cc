/- For every sketch the program's SketchOk answers as the model's SketchOk and writes into nothing that it was given (the law itself lets off sketches of over 1048576 rows and counts): the law's call returns true and its argument reads as before; no condition. -/
import Derived.Test.YtgdoclaifnnpgaaLwOpen
namespace Go.Proofs.Ytgdoclaifnnpgaa.fnExactSketchOk
open Go.ChangeShapes Go.WideShapes Go.ChangeAt Go.RowKit
open Go.Proofs.Ytgdoclaifnnpgaa.sk
set_option linter.unusedVariables false

theorem own : ownKnob Try.prog.godebug = none := by kernel_rfl
theorem laidOut : laidOutB Try.prog = true := by kernel_rfl

/-! ### the walk -/
theorem walk (v : Value) (adds : Int) (R : List (List Int)) (w : World) (hv : Rd w 0 w.heap.size v R) :
    Calls Try.prog 3 #[skv v adds] w fun e w' => e = .returned (.bool true) ∧ Below w.heap.size w w' := by
  have hV : Hid (Rd w 0 w.heap.size v R) := hv
  clear hv
  have m1 : Hid True := trivial
  go_enter Try.func3, Try.ntmps3
  go_wp2_with (first | (refine wpList_box_v rfl 24 _ rfl [v, .int .i64 adds] rfl ?_; intro b1 w1 hb1 hw1 hB1 hV1; have hB := hB1; have hz1 := hB1.size; have hc0 := hV1.cell 0 (by simp); have hc1 := hV1.cell 1 (by simp); simp only [List.getElem_cons_zero, List.getElem_cons_succ] at hc0 hc1) | (go_at_call 10; refine (szSketch_any R v adds _ (by omega) (by omega) _ 0 w.heap.size hB.size (hV.out.below hB (Nat.le_refl _))).mono ?_; rintro e w2 ⟨r, rfl, hr, hB2⟩; have hz2 := hB2.size; replace hV1 := hV1.below hB2 (by omega); clear hc0 hc1; have hc0 := hV1.cell 0 (by simp); have hc1 := hV1.cell 1 (by simp); simp only [List.getElem_cons_zero, List.getElem_cons_succ] at hc0 hc1; replace hB := hB.trans (hB2.mono (by omega)); by_cases hneg : r < 0) | (clear m1; go_at_call 12; refine (toSketch_any R (hr (by omega)) v adds _ 0 w.heap.size hB.size (hV.out.below hB (Nat.le_refl _))).mono ?_; rintro e w3 ⟨va, rfl, hoa, hB3⟩; have hz3 := hB3.size; replace hV1 := hV1.below hB3 (by omega); clear hc0 hc1; have hc0 := hV1.cell 0 (by simp); have hc1 := hV1.cell 1 (by simp); simp only [List.getElem_cons_zero, List.getElem_cons_succ] at hc0 hc1; replace hB := hB.trans (hB3.mono (by omega))) | (go_at_call 11; refine (specSketchOk_any R adds va _ w3.heap.size (Nat.le_refl _) (hoa.rd.wide (Nat.zero_le _) (Nat.le_refl _))).mono ?_; rintro e w4 ⟨rfl, hB4⟩; have hz4 := hB4.size; replace hV1 := hV1.below hB4 (by omega); clear hc0 hc1; have hc0 := hV1.cell 0 (by simp); have hc1 := hV1.cell 1 (by simp); simp only [List.getElem_cons_zero, List.getElem_cons_succ] at hc0 hc1; replace hB := hB.trans (hB4.mono (by omega)); clear hoa) | (go_at_call 12; refine (toSketch_any R (hr (by omega)) v adds _ 0 w.heap.size hB.size (hV.out.below hB (Nat.le_refl _))).mono ?_; rintro e w5 ⟨vx, rfl, hox, hB5⟩; have hz5 := hB5.size; replace hV1 := hV1.below hB5 (by omega); clear hc0 hc1; have hc0 := hV1.cell 0 (by simp); have hc1 := hV1.cell 1 (by simp); simp only [List.getElem_cons_zero, List.getElem_cons_succ] at hc0 hc1; replace hB := hB.trans (hB5.mono (by omega)); obtain ⟨xa, xn, xc, rfl⟩ := hox.form) | (refine wpList_alloc_v rfl 27 rfl _ zero27 ?_; intro b5 w6 hb5 hw6 hB6 hV5; have hz6 := hB6.size; replace hV1 := hV1.below hB6 (by omega); clear hc0 hc1; have hc0 := hV1.cell 0 (by simp); have hc1 := hV1.cell 1 (by simp); simp only [List.getElem_cons_zero, List.getElem_cons_succ] at hc0 hc1; replace hB := hB.trans (hB6.mono (by omega)); replace hox := hox.below hB6 (Nat.le_refl _)) | (refine wpList_store_v rfl 27 _ _ rfl b5 [.slice xa xn xc, .int .i64 adds] rfl rfl size27 hV5 rfl (by simp [Value.oneCell']) ?_; intro w7 hO7 hV7; have hz7 := hO7.1; replace hV1 := hV1.of (hO7.2.1 b1 (by omega)); clear hc0 hc1; have hc0 := hV1.cell 0 (by simp); have hc1 := hV1.cell 1 (by simp); simp only [List.getElem_cons_zero, List.getElem_cons_succ] at hc0 hc1; replace hB := hB.trans (hO7.2.2 _ (by omega)); replace hox := hox.keep (w' := w7) (fun k g1 g2 => hO7.2.1 k (by omega)) (by omega); have hd0 := hV7.cell 0 (by simp); have hd1 := hV7.cell 1 (by simp); simp only [List.getElem_cons_zero, List.getElem_cons_succ] at hd0 hd1) | (go_at_call 13; refine (implSketchOk_any R adds _ _ w5.heap.size (by omega) (hox.rd.wide (Nat.zero_le _) (Nat.le_refl _))).mono ?_; rintro e w8 ⟨rfl, hB8⟩; have hz8 := hB8.size; replace hV1 := hV1.below hB8 (by omega); clear hc0 hc1; have hc0 := hV1.cell 0 (by simp); have hc1 := hV1.cell 1 (by simp); simp only [List.getElem_cons_zero, List.getElem_cons_succ] at hc0 hc1; replace hB := hB.trans (hB8.mono (by omega)); replace hox := hox.below hB8 (by omega); replace hV7 := hV7.below hB8 (by omega); clear hd0 hd1; have hd0 := hV7.cell 0 (by simp); have hd1 := hV7.cell 1 (by simp); simp only [List.getElem_cons_zero, List.getElem_cons_succ] at hd0 hd1))
  · go_ret
    exact ⟨rfl, hB⟩
  · go_region_held3 (fun w' => w'.cell? ⟨b5, 0, none⟩ = some (.slice xa xn xc) ∧ w'.cell? ⟨b5, 1, none⟩ = some (.int .i64 adds) ∧ w'.cell? ⟨b1, 0, none⟩ = some v ∧ w'.cell? ⟨b1, 1, none⟩ = some (.int .i64 adds)) (first | assumption | exact ⟨hd0, hd1, hc0, hc1⟩) (first | (go_at_call 12; refine (toSketch_any R (hr (by omega)) v adds _ 0 w.heap.size hB.drew.size (hV.out.below hB.drew (Nat.le_refl _))).mono ?_; rintro e w9 ⟨vy, rfl, hoy, hB9⟩; have hz9 : w8.heap.size ≤ w9.heap.size := hB9.size; have hV19 := VBlk.below (w := w8.drew) hV1 hB9 (by show b1 < w8.heap.size; omega); have hV79 := VBlk.below (w := w8.drew) hV7 hB9 (by show b5 < w8.heap.size; omega); have hox9 := Own.below (w := w8.drew) hox hB9 (by show w5.heap.size ≤ w8.heap.size; omega); have hS9 : w9.cell? ⟨b5, 0, none⟩ = some (.slice xa xn xc) ∧ w9.cell? ⟨b5, 1, none⟩ = some (.int .i64 adds) ∧ w9.cell? ⟨b1, 0, none⟩ = some v ∧ w9.cell? ⟨b1, 1, none⟩ = some (.int .i64 adds) := ⟨hV79.cell 0 (by simp), hV79.cell 1 (by simp), hV19.cell 0 (by simp), hV19.cell 1 (by simp)⟩) | (go_at_call 14; refine (eqSketch_any R adds _ vy _ w4.heap.size w5.heap.size w8.heap.size w9.heap.size (by omega) (Nat.le_refl _) hox9.rd hoy.rd).mono ?_; rintro e w10 ⟨rfl, hB10⟩; have hV20 := hV19.below hB10 (by omega); have hV80 := hV79.below hB10 (by omega); have hS10 : w10.cell? ⟨b5, 0, none⟩ = some (.slice xa xn xc) ∧ w10.cell? ⟨b5, 1, none⟩ = some (.int .i64 adds) ∧ w10.cell? ⟨b1, 0, none⟩ = some v ∧ w10.cell? ⟨b1, 1, none⟩ = some (.int .i64 adds) := ⟨hV80.cell 0 (by simp), hV80.cell 1 (by simp), hV20.cell 0 (by simp), hV20.cell 1 (by simp)⟩))
    go_wp2
    go_ret
    have hz8' : w.heap.size ≤ w8.heap.size := hB.size
    exact ⟨rfl, (hB.drew.trans (hB9.mono hz8')).trans (hB10.mono (by omega))⟩

/-! ### the row, by the frame -/
set_option maxRecDepth 100000 in
theorem lifted (os : Os) (started : os.Started) (H : Type) (enc : TypeId × Value → H) :
    ReturnsInHanded {} Try.checked os 3 .any (Rows.fnExactSketchOkSpec.pre6 enc Try.prog Try.f3 Rows.fnExactSketchOkRow.domain false) (Rows.fnExactSketchOkSpec.post enc Try.prog Try.f3 false true false false) := by
  refine returnsInHanded_of_change (C := Try.checked) own started (by kernel_rfl) Try.func3
    (ChangeSpec.witness6 (enc := enc) (C := Try.checked) false ⟨#[], #[.agg #[.slice none 0 0, .int .i64 0]], []⟩ 8 (by kernel_rfl) (by kernel_rfl) (by kernel_rfl) (by kernel_rfl)) ?_
  intro W base args ds gs before hval0 hW hcnd _
  have hval : ∀ (j : Nat) t v, Try.f3.params[j]? = some t → args[j]? = some v → Value.okWide Try.prog W .any base t v := hval0
  have hW' := hW
  obtain ⟨p, q, hA0, hV, rfl, hfz, hnd⟩ := hW
  have hA : DataW.TrodAll enc Try.prog W 0 (fun _ => true) true Try.f3.params.toList args.toList ds p := hA0
  rw [Try.params3] at hA hval
  obtain ⟨v0, vs0, d0, ds0, p0, q0, hargs, rfl, rfl, h0, r0⟩ := trodAll_cons hA
  obtain ⟨rfl, rfl, rfl⟩ := trodAll_nil r0
  obtain rfl : args = #[v0] := by cases args; simp_all
  obtain ⟨rfl, rfl⟩ := trodVars_none hV
  have k0 := h0
  have lt0 : ∀ x ∈ p0, x.block < W.heap.size := by obtain ⟨m, hm⟩ := k0; exact DataW.trod_lt m _ _ _ hm
  obtain ⟨c0, adds, R, rfl, hR, -⟩ := open_sketch (hval 0 24 v0 rfl rfl) h0
  clear hA0 hval0
  refine (walk c0 adds R W hR).mono fun e W' ⟨he, bel⟩ => ?_
  subst he
  exact ⟨_, rfl, _, _, _, [], _, [], hW', trodAll_mk1 (shut_bool Try.underlying4 _), (trodAll_cons_mk (Below.trod laidOut (by kernel_rfl) (of_decide_eq_true (by kernel_rfl)) k0 bel lt0) trodAll_mk0), rfl, bel.frame _, fun h => by cases h⟩

theorem over : Rows.fnExactSketchOkRow.holds Try.pinned (OpenSpec.ofChange Rows.fnExactSketchOkSpec) :=
  OpenClaim.holds_of_wide 3 Try.f3 rfl rfl rfl rfl rfl rfl rfl ⟨rfl, rfl, rfl, rfl, rfl⟩ rfl rfl rfl rfl rfl (by kernel_rfl) Try.func3 (by kernel_rfl)
    (of_decide_eq_true (by kernel_rfl)) (by unfold Func.isWrapper; first | (rw [if_pos (by decide +kernel)]; kernel_rfl) | (rw [if_neg (by decide +kernel)]; exact ⟨rfl, rfl⟩))
    (fun os started H enc _ => lifted os started H enc)

/-- the statement -/
theorem proved : Rows.FnExactSketchOkSaid := over
end Go.Proofs.Ytgdoclaifnnpgaa.fnExactSketchOk

namespace Go.Proofs.Ytgdoclaifnnpgaa
/-- the statement, under its short name -/
theorem fnExactSketchOk_holds : Rows.FnExactSketchOkSaid := fnExactSketchOk.proved
#print axioms fnExactSketchOk_holds
end Go.Proofs.Ytgdoclaifnnpgaa
