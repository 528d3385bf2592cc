/- For every tally the program's TallyOk answers as the model's TallyOk: the law's call returns true and its arguments read as before; no condition. -/
import Derived.Test.YtjkhmahdokcgeaaTl3
namespace Go.Proofs.Ytjkhmahdokcgeaa.fnExactTallyOk
open Go.ChangeShapes Go.WideShapes Go.ChangeAt Go.RowKit
open Go.Proofs.Ytjkhmahdokcgeaa.ce Go.Proofs.Ytjkhmahdokcgeaa.ro Go.Proofs.Ytjkhmahdokcgeaa.rg Go.Proofs.Ytjkhmahdokcgeaa.cm
open Go.ChangeMaps (open_string shut_string)
set_option linter.unusedVariables false

theorem own : ownKnob Try.prog.godebug = none := by kernel_rfl
theorem laidOut : laidOutB Try.prog = true := by kernel_rfl

/-! ### the walk -/
set_option maxRecDepth 100000 in
set_option maxHeartbeats 4000000 in
theorem walk (A H S D O : Int) (w : World)  :
    Calls Try.prog 7 #[.agg #[.int .i64 A, .int .i64 H, .int .i64 S, .int .i64 D, .int .i64 O]] w fun e w' => e = .returned (.bool true) ∧ Below w.heap.size w w' := by
  obtain ⟨z, hz⟩ := hid_ex (tallyB ⟨A, H, S, D, O⟩)
  have hzz : (z != z) = false := by simp
  go_enter Try.func7, Try.ntmps7
  have mk1 : Hid True := trivial
  have mk2 : Hid True := trivial
  have mk3 : Hid True := trivial
  have mk4 : Hid True := trivial
  have mk5 : Hid True := trivial
  have mk6 : Hid True := trivial
  have mk7 : Hid True := trivial
  go_wp2_with (first | (clear mk1; refine wpList_box_v rfl 54 _ rfl [.int .i64 A, .int .i64 H, .int .i64 S, .int .i64 D, .int .i64 O] rfl ?_; intro bt w1 hbt hwbt hB1 ct; have hz1 : w.heap.size ≤ w1.heap.size := hB1.size; have hB := hB1; have hzw := hB.size; obtain ⟨ct0, ct1, ct2, ct3, ct4⟩ := cells5 ct) | (clear mk2; refine wpList_load_r rfl 54 _ rfl bt 0 [.int .i64 A, .int .i64 H, .int .i64 S, .int .i64 D, .int .i64 O] rfl _ Try.underlying54 rfl sizeLTl ct.range ?_) | (clear mk3; go_at_call 34; refine (toTl_any A H S D O _).mono ?_; rintro er w2 ⟨rfl, hB2⟩; have hz2 : w1.heap.size ≤ w2.heap.size := hB2.size; replace ct := vblk_grow ct hB2; replace hB := hB.trans (hB2.mono (by omega)); replace hzw := hB.size; clear ct0 ct1 ct2 ct3 ct4; obtain ⟨ct0, ct1, ct2, ct3, ct4⟩ := cells5 ct) | (clear mk4; go_at_call 33; refine (specTallyOk_any A H S D O z hz _).mono ?_; rintro er w3 ⟨rfl, hB3⟩; have hz3 : w2.heap.size ≤ w3.heap.size := hB3.size; replace ct := vblk_grow ct hB3; replace hB := hB.trans (hB3.mono (by omega)); replace hzw := hB.size; clear ct0 ct1 ct2 ct3 ct4; obtain ⟨ct0, ct1, ct2, ct3, ct4⟩ := cells5 ct) | (clear mk5; refine wpList_load_r rfl 54 _ rfl bt 0 [.int .i64 A, .int .i64 H, .int .i64 S, .int .i64 D, .int .i64 O] rfl _ Try.underlying54 rfl sizeLTl ct.range ?_) | (clear mk6; go_at_call 34; refine (toTl_any A H S D O _).mono ?_; rintro er w4 ⟨rfl, hB4⟩; have hz4 : w3.heap.size ≤ w4.heap.size := hB4.size; replace ct := vblk_grow ct hB4; replace hB := hB.trans (hB4.mono (by omega)); replace hzw := hB.size; clear ct0 ct1 ct2 ct3 ct4; obtain ⟨ct0, ct1, ct2, ct3, ct4⟩ := cells5 ct) | (clear mk7; go_at_call 35; refine (implTallyOk_any A H S D O z hz _).mono ?_; rintro er w5 ⟨rfl, hB5⟩; have hz5 : w4.heap.size ≤ w5.heap.size := hB5.size; replace ct := vblk_grow ct hB5; replace hB := hB.trans (hB5.mono (by omega)); replace hzw := hB.size; clear ct0 ct1 ct2 ct3 ct4; obtain ⟨ct0, ct1, ct2, ct3, ct4⟩ := cells5 ct) | (fail))
  go_ret
  exact ⟨rfl, hB⟩

/-! ### the row, by the frame -/
set_option maxRecDepth 100000 in
theorem lifted (os : Os) (started : os.Started) (H : Type) (enc : TypeId × Value → H) :
    ReturnsInHanded {} Try.checked os 7 .any (Rows.fnExactTallyOkSpec.pre6 enc Try.prog Try.f7 Rows.fnExactTallyOkRow.domain false) (Rows.fnExactTallyOkSpec.post enc Try.prog Try.f7 false true false false) := by
  refine returnsInHanded_of_change (C := Try.checked) own started (by kernel_rfl) Try.func7
    (ChangeSpec.witness6 (enc := enc) (C := Try.checked) false ⟨#[], #[.agg #[.int .i64 0, .int .i64 0, .int .i64 0, .int .i64 0, .int .i64 0]], []⟩ 8 (by kernel_rfl) (by kernel_rfl) (by kernel_rfl) (by kernel_rfl)) ?_
  intro W base args ds gs before hval0 hW hcnd _
  have hval : ∀ (j : Nat) t v, Try.f7.params[j]? = some t → args[j]? = some v → Value.okWide Try.prog W .any base t v := hval0
  have hW' := hW
  obtain ⟨p, q, hA0, hV, rfl, hfz, hnd⟩ := hW
  have hA : DataW.TrodAll enc Try.prog W 0 (fun _ => true) true Try.f7.params.toList args.toList ds p := hA0
  rw [Try.params7] at hA hval
  obtain ⟨v0, vs0, d0, ds0, p0, q0, hargs, rfl, rfl, h0, r0⟩ := trodAll_cons hA
  obtain ⟨rfl, rfl, rfl⟩ := trodAll_nil r0
  obtain rfl : args = #[v0] := by cases args; simp_all
  obtain ⟨rfl, rfl⟩ := trodVars_none hV
  have k0 := h0
  have lt0 : ∀ x ∈ p0, x.block < W.heap.size := by obtain ⟨m, hm⟩ := k0; exact DataW.trod_lt m _ _ _ hm
  obtain ⟨A0, H0, S0, D0, O0, rfl, -⟩ := openTl (hval 0 54 v0 rfl rfl) h0
  clear hA0 hval0
  refine (walk A0 H0 S0 D0 O0 W ).mono fun e W' ⟨he, bel⟩ => ?_
  subst he
  exact ⟨_, rfl, _, _, _, [], _, [], hW', trodAll_mk1 (shut_bool Try.underlying4 _), (trodAll_cons_mk (Below.trod laidOut (by kernel_rfl) (of_decide_eq_true (by kernel_rfl)) k0 bel lt0) trodAll_mk0), rfl, bel.frame _, fun h => by cases h⟩

theorem over : Rows.fnExactTallyOkRow.holds Try.pinned (OpenSpec.ofChange Rows.fnExactTallyOkSpec) :=
  OpenClaim.holds_of_wide 7 Try.f7 rfl rfl rfl rfl rfl rfl rfl ⟨rfl, rfl, rfl, rfl, rfl⟩ rfl rfl rfl rfl rfl (by kernel_rfl) Try.func7 (by kernel_rfl)
    (of_decide_eq_true (by kernel_rfl)) (by unfold Func.isWrapper; first | (rw [if_pos (by decide +kernel)]; kernel_rfl) | (rw [if_neg (by decide +kernel)]; exact ⟨rfl, rfl⟩))
    (fun os started H enc _ => lifted os started H enc)

/-- the statement -/
theorem proved : Rows.FnExactTallyOkSaid := over
end Go.Proofs.Ytjkhmahdokcgeaa.fnExactTallyOk

namespace Go.Proofs.Ytjkhmahdokcgeaa
/-- the statement, under its short name -/
theorem fnExactTallyOk_holds : Rows.FnExactTallyOkSaid := fnExactTallyOk.proved
#print axioms fnExactTallyOk_holds
end Go.Proofs.Ytjkhmahdokcgeaa
