/- For every sketch and key the program's Estimate answers as the model's Estimate and writes into nothing that it was given (the law itself lets off what is over 1048576 rows, counts or bytes): the law's call returns true and its arguments read as before; no condition. -/
import Derived.Test.YtgdoclaifnnpgaaLwOpen
namespace Go.Proofs.Ytgdoclaifnnpgaa.fnExactEstimate
open Go.ChangeShapes Go.WideShapes Go.ChangeAt Go.RowKit
open Go.ChangeMaps (open_string shut_string)
open Go.Proofs.Ytgdoclaifnnpgaa.sk
set_option linter.unusedVariables false

theorem own : ownKnob Try.prog.godebug = none := by kernel_rfl
theorem laidOut : laidOutB Try.prog = true := by kernel_rfl

/-! ### the walk -/
set_option maxHeartbeats 4000000 in
theorem walk (v : Value) (adds : Int) (R : List (List Int)) (key : ByteArray) (w : World) (hv : Rd w 0 w.heap.size v R)  :
    Calls Try.prog 7 #[skv v adds, .string key] w fun e w' => e = .returned (.bool true) ∧ Below w.heap.size w w' := by
  have hV : Hid (Rd w 0 w.heap.size v R) := hv
  clear hv
  by_cases hl : 1048576 < key.size
  · have m1 : Hid True := trivial
    go_enter Try.func7, Try.ntmps7
    go_wp2_with (first | (clear m1; refine wpList_box_v rfl 24 _ rfl [v, .int .i64 adds] rfl ?_; intro b1 w1 hb1 hw1 hB1 hV1))
    go_ret
    exact ⟨rfl, hB1⟩
  have hk : key.size ≤ 1048576 := by omega
  have hE : (estA R adds key != estA R adds key) = false := by simp
  have m1 : Hid True := trivial
  have m2 : Hid True := trivial
  have m3 : Hid True := trivial
  have m4 : Hid True := trivial
  have m5 : Hid True := trivial
  have m6 : Hid True := trivial
  have m7 : Hid True := trivial
  have m8 : Hid True := trivial
  go_enter Try.func7, Try.ntmps7
  go_wp2_with (first | (clear m1; refine wpList_box_v rfl 24 _ rfl [v, .int .i64 adds] rfl ?_; intro b1 w1 hb1 hw1 hB1 hV1; have hz1 := hB1.size; have hB := hB1; have hV1c0 := hV1.cell 0 (by simp); have hV1c1 := hV1.cell 1 (by simp); simp only [List.getElem_cons_zero, List.getElem_cons_succ] at hV1c0 hV1c1) | (clear m2; go_at_call 10; refine (szSketch_any R v adds _ (by omega) (by omega) _ 0 w.heap.size hB.size (hV.out.below hB (Nat.le_refl _))).mono ?_; rintro e w2 ⟨r, rfl, hr, hB2⟩; have hz2 := hB2.size; replace hV1 := hV1.below hB2 (by omega); clear hV1c0 hV1c1; have hV1c0 := hV1.cell 0 (by simp); have hV1c1 := hV1.cell 1 (by simp); simp only [List.getElem_cons_zero, List.getElem_cons_succ] at hV1c0 hV1c1; replace hB := hB.trans (hB2.mono (by omega)); by_cases hneg : r < 0) | (clear m3; go_at_call 12; refine (toSketch_any R (hr (by omega)) v adds _ 0 w.heap.size hB.size (hV.out.below hB (Nat.le_refl _))).mono ?_; rintro e w3 ⟨va, rfl, hoa, hB3⟩; have hz3 := hB3.size; replace hV1 := hV1.below hB3 (by omega); clear hV1c0 hV1c1; have hV1c0 := hV1.cell 0 (by simp); have hV1c1 := hV1.cell 1 (by simp); simp only [List.getElem_cons_zero, List.getElem_cons_succ] at hV1c0 hV1c1; replace hB := hB.trans (hB3.mono (by omega))) | (clear m4; go_at_call 23; refine (specEstimate_any R adds key hk va _ w3.heap.size (Nat.le_refl _) (hoa.rd.wide (Nat.zero_le _) (Nat.le_refl _))).mono ?_; rintro e w4 ⟨rfl, hB4⟩; have hz4 := hB4.size; replace hV1 := hV1.below hB4 (by omega); clear hV1c0 hV1c1; have hV1c0 := hV1.cell 0 (by simp); have hV1c1 := hV1.cell 1 (by simp); simp only [List.getElem_cons_zero, List.getElem_cons_succ] at hV1c0 hV1c1; replace hoa := hoa.below hB4 (by omega); replace hB := hB.trans (hB4.mono (by omega)); clear hoa) | (clear m5; go_at_call 12; refine (toSketch_any R (hr (by omega)) v adds _ 0 w.heap.size hB.size (hV.out.below hB (Nat.le_refl _))).mono ?_; rintro e w5 ⟨vx, rfl, hox, hB5⟩; have hz5 := hB5.size; replace hV1 := hV1.below hB5 (by omega); clear hV1c0 hV1c1; have hV1c0 := hV1.cell 0 (by simp); have hV1c1 := hV1.cell 1 (by simp); simp only [List.getElem_cons_zero, List.getElem_cons_succ] at hV1c0 hV1c1; replace hB := hB.trans (hB5.mono (by omega)); obtain ⟨xa, xn, xc, rfl⟩ := hox.form) | (clear m6; refine wpList_alloc_v rfl 27 rfl _ zero27 ?_; intro b5 w6 hb6 hw6 hB6 hV5; have hz6 := hB6.size; replace hV1 := hV1.below hB6 (by omega); clear hV1c0 hV1c1; have hV1c0 := hV1.cell 0 (by simp); have hV1c1 := hV1.cell 1 (by simp); simp only [List.getElem_cons_zero, List.getElem_cons_succ] at hV1c0 hV1c1; replace hox := hox.below hB6 (by omega); replace hB := hB.trans (hB6.mono (by omega))) | (clear m7; refine wpList_store_v rfl 27 _ _ rfl b5 [.slice xa xn xc, .int .i64 adds] rfl rfl size27 hV5 rfl (by simp [Value.oneCell']) ?_; intro w7 hO7 hV5n; have hz7 := hO7.1; replace hV1 := hV1.of (hO7.2.1 _ (by omega)); clear hV1c0 hV1c1; have hV1c0 := hV1.cell 0 (by simp); have hV1c1 := hV1.cell 1 (by simp); simp only [List.getElem_cons_zero, List.getElem_cons_succ] at hV1c0 hV1c1; replace hox := hox.keep (w' := w7) (fun k g1 g2 => hO7.2.1 k (by omega)) (by omega); replace hB := hB.trans (hO7.2.2 _ (by omega)); clear hV5; have hV5 := hV5n; clear hV5n; have hV5c0 := hV5.cell 0 (by simp); have hV5c1 := hV5.cell 1 (by simp); simp only [List.getElem_cons_zero, List.getElem_cons_succ] at hV5c0 hV5c1) | (clear m8; go_at_call 24; refine (implEstimate_any R adds key hk _ _ w5.heap.size (by omega) (hox.rd.wide (Nat.zero_le _) (Nat.le_refl _))).mono ?_; rintro e w8 ⟨rfl, hB8⟩; have hz8 := hB8.size; replace hV1 := hV1.below hB8 (by omega); clear hV1c0 hV1c1; have hV1c0 := hV1.cell 0 (by simp); have hV1c1 := hV1.cell 1 (by simp); simp only [List.getElem_cons_zero, List.getElem_cons_succ] at hV1c0 hV1c1; replace hV5 := hV5.below hB8 (by omega); clear hV5c0 hV5c1; have hV5c0 := hV5.cell 0 (by simp); have hV5c1 := hV5.cell 1 (by simp); simp only [List.getElem_cons_zero, List.getElem_cons_succ] at hV5c0 hV5c1; replace hox := hox.below hB8 (by omega); replace hB := hB.trans (hB8.mono (by omega))))
  · go_ret
    exact ⟨rfl, hB⟩
  · go_region_held3 (fun w' => w'.cell? ⟨b5, 0, none⟩ = some (.slice xa xn xc) ∧ w'.cell? ⟨b5, 1, none⟩ = some (.int .i64 adds) ∧ w'.cell? ⟨b1, 0, none⟩ = some v ∧ w'.cell? ⟨b1, 1, none⟩ = some (.int .i64 adds)) (first | assumption | exact ⟨hV5c0, hV5c1, hV1c0, hV1c1⟩) (first | (go_at_call 12; refine (toSketch_any R (hr (by omega)) v adds _ 0 w.heap.size hB.drew.size (hV.out.below hB.drew (Nat.le_refl _))).mono ?_; rintro e wa ⟨vy, rfl, hoy, hBa⟩; have hza : w8.heap.size ≤ wa.heap.size := hBa.size; have hV19 := VBlk.below (w := w8.drew) hV1 hBa (by show b1 < w8.heap.size; omega); have hV79 := VBlk.below (w := w8.drew) hV5 hBa (by show b5 < w8.heap.size; omega); have hox9 := Own.below (w := w8.drew) hox hBa (by show w5.heap.size ≤ w8.heap.size; omega); have hS9 : wa.cell? ⟨b5, 0, none⟩ = some (.slice xa xn xc) ∧ wa.cell? ⟨b5, 1, none⟩ = some (.int .i64 adds) ∧ wa.cell? ⟨b1, 0, none⟩ = some v ∧ wa.cell? ⟨b1, 1, none⟩ = some (.int .i64 adds) := ⟨hV79.cell 0 (by simp), hV79.cell 1 (by simp), hV19.cell 0 (by simp), hV19.cell 1 (by simp)⟩) | (go_at_call 14; refine (eqSketch_any R adds _ vy _ w4.heap.size w5.heap.size w8.heap.size wa.heap.size (by omega) (Nat.le_refl _) hox9.rd hoy.rd).mono ?_; rintro e wb ⟨rfl, hBb⟩; have hzb := hBb.size; have hV20 := hV19.below hBb (by omega); have hV80 := hV79.below hBb (by omega); have hS10 : wb.cell? ⟨b5, 0, none⟩ = some (.slice xa xn xc) ∧ wb.cell? ⟨b5, 1, none⟩ = some (.int .i64 adds) ∧ wb.cell? ⟨b1, 0, none⟩ = some v ∧ wb.cell? ⟨b1, 1, none⟩ = some (.int .i64 adds) := ⟨hV80.cell 0 (by simp), hV80.cell 1 (by simp), hV20.cell 0 (by simp), hV20.cell 1 (by simp)⟩))
    go_wp2
    go_ret
    have hz' : w.heap.size ≤ w8.heap.size := hB.size
    exact ⟨rfl, (hB.drew.trans (hBa.mono hz')).trans (hBb.mono (by omega))⟩


/-! ### the row, by the frame -/
set_option maxRecDepth 100000 in
theorem lifted (os : Os) (started : os.Started) (H : Type) (enc : TypeId × Value → H) :
    ReturnsInHanded {} Try.checked os 7 .any (Rows.fnExactEstimateSpec.pre6 enc Try.prog Try.f7 Rows.fnExactEstimateRow.domain false) (Rows.fnExactEstimateSpec.post enc Try.prog Try.f7 false true false false) := by
  refine returnsInHanded_of_change (C := Try.checked) own started (by kernel_rfl) Try.func7
    (ChangeSpec.witness6 (enc := enc) (C := Try.checked) false ⟨#[], #[.agg #[.slice none 0 0, .int .i64 0], .string ByteArray.empty], []⟩ 8 (by kernel_rfl) (by kernel_rfl) (by kernel_rfl) (by kernel_rfl)) ?_
  intro W base args ds gs before hval0 hW hcnd _
  have hval : ∀ (j : Nat) t v, Try.f7.params[j]? = some t → args[j]? = some v → Value.okWide Try.prog W .any base t v := hval0
  have hW' := hW
  obtain ⟨p, q, hA0, hV, rfl, hfz, hnd⟩ := hW
  have hA : DataW.TrodAll enc Try.prog W 0 (fun _ => true) true Try.f7.params.toList args.toList ds p := hA0
  rw [Try.params7] at hA hval
  obtain ⟨v0, vs0, d0, ds0, p0, q0, hargs, rfl, rfl, h0, r0⟩ := trodAll_cons hA
  obtain ⟨v1, vs1, d1, ds1, p1, q1, rfl, rfl, rfl, h1, r1⟩ := trodAll_cons r0
  obtain ⟨rfl, rfl, rfl⟩ := trodAll_nil r1
  obtain rfl : args = #[v0, v1] := by cases args; simp_all
  obtain ⟨rfl, rfl⟩ := trodVars_none hV
  have k0 := h0
  have lt0 : ∀ x ∈ p0, x.block < W.heap.size := by obtain ⟨m, hm⟩ := k0; exact DataW.trod_lt m _ _ _ hm
  obtain ⟨c0, adds, R, rfl, hR, -⟩ := open_sketch (hval 0 24 v0 rfl rfl) h0
  obtain ⟨a1, rfl, rfl, rfl, ws1⟩ := open_string Try.underlying9 (hval 1 9 v1 rfl rfl) h1
  clear hA0 hval0
  refine (walk c0 adds R a1 W hR).mono fun e W' ⟨he, bel⟩ => ?_
  subst he
  exact ⟨_, rfl, _, _, _, [], _, [], hW', trodAll_mk1 (shut_bool Try.underlying4 _), (trodAll_cons_mk (Below.trod laidOut (by kernel_rfl) (of_decide_eq_true (by kernel_rfl)) k0 bel lt0) (trodAll_cons_mk (shut_string Try.underlying9 ws1) trodAll_mk0)), rfl, bel.frame _, fun h => by cases h⟩

theorem over : Rows.fnExactEstimateRow.holds Try.pinned (OpenSpec.ofChange Rows.fnExactEstimateSpec) :=
  OpenClaim.holds_of_wide 7 Try.f7 rfl rfl rfl rfl rfl rfl rfl ⟨rfl, rfl, rfl, rfl, rfl⟩ rfl rfl rfl rfl rfl (by kernel_rfl) Try.func7 (by kernel_rfl)
    (of_decide_eq_true (by kernel_rfl)) (by unfold Func.isWrapper; first | (rw [if_pos (by decide +kernel)]; kernel_rfl) | (rw [if_neg (by decide +kernel)]; exact ⟨rfl, rfl⟩))
    (fun os started H enc _ => lifted os started H enc)

/-- the statement -/
theorem proved : Rows.FnExactEstimateSaid := over
end Go.Proofs.Ytgdoclaifnnpgaa.fnExactEstimate

namespace Go.Proofs.Ytgdoclaifnnpgaa
/-- the statement, under its short name -/
theorem fnExactEstimate_holds : Rows.FnExactEstimateSaid := fnExactEstimate.proved
#print axioms fnExactEstimate_holds
end Go.Proofs.Ytgdoclaifnnpgaa
