/- For every reply the program's ReplyOk answers as the model's ReplyOk (the law itself lets off what has over 1048576 bytes): the law's call returns true and its arguments read as before; no condition. -/
import Derived.Test.YtafianplgnkolaaRk6
namespace Go.Proofs.Ytafianplgnkolaa.fnExactReplyOk
open Go.ChangeShapes Go.WideShapes Go.ChangeAt Go.RowKit
open Go.Proofs.Ytafianplgnkolaa.ce Go.Proofs.Ytafianplgnkolaa.ro Go.Proofs.Ytafianplgnkolaa.rg Go.Proofs.Ytafianplgnkolaa.cm
open Go.ChangeMaps (open_string shut_string)
set_option linter.unusedVariables false

theorem own : ownKnob Try.prog.godebug = none := by kernel_rfl
theorem laidOut : laidOutB Try.prog = true := by kernel_rfl

/-! ### the walk -/
set_option maxRecDepth 100000 in
set_option maxHeartbeats 4000000 in
theorem walk (K : Int) (N : ByteArray) (F : Int) (B : ByteArray) (C M : Int) (w : World) (hN : N.size ≤ 9223372036854775807) (hB0 : B.size ≤ 9223372036854775807) :
    Calls Try.prog 3 #[.agg #[.int .i64 K, .string N, .int .i64 F, .string B, .int .i64 C, .int .i64 M]] w fun e w' => e = .returned (.bool true) ∧ Below w.heap.size w w' := by
  obtain ⟨z, hZ⟩ := hid_ex (repB ⟨K, N, F, B, C, M⟩)
  have hzz : (z != z) = false := by simp
  go_enter Try.func3, Try.ntmps3
  have mk1 : Hid True := trivial
  have mk2 : Hid True := trivial
  have mk3 : Hid True := trivial
  have mk4 : Hid True := trivial
  have mk5 : Hid True := trivial
  have mk6 : Hid True := trivial
  have mk7 : Hid True := trivial
  have mk8 : Hid True := trivial
  have mk9 : Hid True := trivial
  go_wp2_with (first | (clear mk1; refine wpList_box_v rfl 23 _ rfl [.int .i64 K, .string N, .int .i64 F, .string B, .int .i64 C, .int .i64 M] rfl ?_; intro bA w1 hbA hwbA hB1 cA; have hz1 : w.heap.size ≤ w1.heap.size := hB1.size; have hB := hB1; have hzw := hB.size) | (clear mk2; refine wpList_load_r rfl 23 _ rfl bA 0 [.int .i64 K, .string N, .int .i64 F, .string B, .int .i64 C, .int .i64 M] rfl _ Try.underlying23 rfl sizeLRp cA.range ?_) | (clear mk3; go_at_call 4; refine (szRp_any K N F B C M hN hB0 1048576 (by omega) (by omega) _).mono ?_; rintro er w2 ⟨Z, rfl, hB2, -, hr⟩; have hz2 : w1.heap.size ≤ w2.heap.size := hB2.size; replace hB := hB.trans (hB2.mono (by omega)); replace hzw := hB.size; replace cA := vblk_grow cA hB2; by_cases hneg : Z < 0) | (clear mk4; refine wpList_load_r rfl 23 _ rfl bA 0 [.int .i64 K, .string N, .int .i64 F, .string B, .int .i64 C, .int .i64 M] rfl _ Try.underlying23 rfl sizeLRp cA.range ?_) | (clear mk5; go_at_call 6; refine (toRp_any K N F B C M _).mono ?_; rintro er w3 ⟨rfl, hB3⟩; have hz3 : w2.heap.size ≤ w3.heap.size := hB3.size; replace hB := hB.trans (hB3.mono (by omega)); replace hzw := hB.size; replace cA := vblk_grow cA hB3) | (clear mk6; go_at_call 5; refine (specReplyOk_any K N F B C M _ hZ (by omega) (by omega) _).mono ?_; rintro er w4 ⟨rfl, hB4⟩; have hz4 : w3.heap.size ≤ w4.heap.size := hB4.size; replace hB := hB.trans (hB4.mono (by omega)); replace hzw := hB.size; replace cA := vblk_grow cA hB4) | (clear mk7; refine wpList_load_r rfl 23 _ rfl bA 0 [.int .i64 K, .string N, .int .i64 F, .string B, .int .i64 C, .int .i64 M] rfl _ Try.underlying23 rfl sizeLRp cA.range ?_) | (clear mk8; go_at_call 6; refine (toRp_any K N F B C M _).mono ?_; rintro er w5 ⟨rfl, hB5⟩; have hz5 : w4.heap.size ≤ w5.heap.size := hB5.size; replace hB := hB.trans (hB5.mono (by omega)); replace hzw := hB.size; replace cA := vblk_grow cA hB5) | (clear mk9; go_at_call 7; refine (implReplyOk_any K N F B C M _ hZ (by omega) (by omega) _).mono ?_; rintro er w6 ⟨rfl, hB6⟩; have hz6 : w5.heap.size ≤ w6.heap.size := hB6.size; replace hB := hB.trans (hB6.mono (by omega)); replace hzw := hB.size; replace cA := vblk_grow cA hB6) | (fail))
  · go_ret
    exact ⟨rfl, hB⟩
  · go_ret
    exact ⟨rfl, hB⟩

/-! ### the row, by the frame -/
set_option maxRecDepth 100000 in
theorem lifted (os : Os) (started : os.Started) (H : Type) (enc : TypeId × Value → H) :
    ReturnsInHanded {} Try.checked os 3 .any (Rows.fnExactReplyOkSpec.pre6 enc Try.prog Try.f3 Rows.fnExactReplyOkRow.domain false) (Rows.fnExactReplyOkSpec.post enc Try.prog Try.f3 false true false false) := by
  refine returnsInHanded_of_change (C := Try.checked) own started (by kernel_rfl) Try.func3
    (ChangeSpec.witness6 (enc := enc) (C := Try.checked) false ⟨#[], #[.agg #[.int .i64 0, .string ByteArray.empty, .int .i64 0, .string ByteArray.empty, .int .i64 0, .int .i64 0]], []⟩ 8 (by kernel_rfl) (by kernel_rfl) (by kernel_rfl) (by kernel_rfl)) ?_
  intro W base args ds gs before hval0 hW hcnd _
  have hval : ∀ (j : Nat) t v, Try.f3.params[j]? = some t → args[j]? = some v → Value.okWide Try.prog W .any base t v := hval0
  have hW' := hW
  obtain ⟨p, q, hA0, hV, rfl, hfz, hnd⟩ := hW
  have hA : DataW.TrodAll enc Try.prog W 0 (fun _ => true) true Try.f3.params.toList args.toList ds p := hA0
  rw [Try.params3] at hA hval
  obtain ⟨v0, vs0, d0, ds0, p0, q0, hargs, rfl, rfl, h0, r0⟩ := trodAll_cons hA
  obtain ⟨rfl, rfl, rfl⟩ := trodAll_nil r0
  obtain rfl : args = #[v0] := by cases args; simp_all
  obtain ⟨rfl, rfl⟩ := trodVars_none hV
  have k0 := h0
  have lt0 : ∀ x ∈ p0, x.block < W.heap.size := by obtain ⟨m, hm⟩ := k0; exact DataW.trod_lt m _ _ _ hm
  obtain ⟨K0, N0, F0, B0, C0, M0, rfl, sN0, sB0⟩ := openRp (hval 0 23 v0 rfl rfl) h0
  clear hA0 hval0
  refine (walk K0 N0 F0 B0 C0 M0 W sN0 sB0).mono fun e W' ⟨he, bel⟩ => ?_
  subst he
  exact ⟨_, rfl, _, _, _, [], _, [], hW', trodAll_mk1 (shut_bool Try.underlying4 _), (trodAll_cons_mk (Below.trod laidOut (by kernel_rfl) (of_decide_eq_true (by kernel_rfl)) k0 bel lt0) trodAll_mk0), rfl, bel.frame _, fun h => by cases h⟩

theorem over : Rows.fnExactReplyOkRow.holds Try.pinned (OpenSpec.ofChange Rows.fnExactReplyOkSpec) :=
  OpenClaim.holds_of_wide 3 Try.f3 rfl rfl rfl rfl rfl rfl rfl ⟨rfl, rfl, rfl, rfl, rfl⟩ rfl rfl rfl rfl rfl (by kernel_rfl) Try.func3 (by kernel_rfl)
    (of_decide_eq_true (by kernel_rfl)) (by unfold Func.isWrapper; first | (rw [if_pos (by decide +kernel)]; kernel_rfl) | (rw [if_neg (by decide +kernel)]; exact ⟨rfl, rfl⟩))
    (fun os started H enc _ => lifted os started H enc)

/-- the statement -/
theorem proved : Rows.FnExactReplyOkSaid := over
end Go.Proofs.Ytafianplgnkolaa.fnExactReplyOk

namespace Go.Proofs.Ytafianplgnkolaa
/-- the statement, under its short name -/
theorem fnExactReplyOk_holds : Rows.FnExactReplyOkSaid := fnExactReplyOk.proved
#print axioms fnExactReplyOk_holds
end Go.Proofs.Ytafianplgnkolaa
