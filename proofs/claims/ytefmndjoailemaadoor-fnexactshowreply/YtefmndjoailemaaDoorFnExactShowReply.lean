/- For every reply the program's ShowReply answers as the model's ShowReply (the law itself lets off what has over 1048576 bytes): the law's call returns true and its arguments read as before; no condition. A tied card: the listed package-level variables (the kinds' words and tables of Go's library) are tied to the program's text by the given tie; the pruned copy of the project alone is spoken of. -/
import Derived.Test.YtefmndjoailemaaDoorRw4
import Derived.Test.YtefmndjoailemaaDoorCards
import Derived.Test.YtefmndjoailemaaDoorTie
import Derived.SevenTiedAt
import Derived.OpenVars
import Derived.Lay
import Derived.LaidMore
import Derived.Stop.Joined
namespace Go.Proofs.YtefmndjoailemaaDoor.fnExactShowReply
open Go.ChangeShapes Go.WideShapes Go.ChangeAt Go.RowKit
open Go.Proofs.YtefmndjoailemaaDoor.ce Go.Proofs.YtefmndjoailemaaDoor.ro Go.Proofs.YtefmndjoailemaaDoor.rg Go.Proofs.YtefmndjoailemaaDoor.cm
open Go.ChangeMaps (open_string shut_string)
set_option linter.unusedVariables false

theorem own : ownKnob Tryd.prog.godebug = none := by kernel_rfl
theorem laidOut : laidOutB Tryd.prog = true := by kernel_rfl
/-- what the listed variables give: the kinds' words, the tens -/
theorem envOf {W : World} (h : laidMetH Tryd.prog Rows.fnExactShowReplyRow.laid W) : EnvP W := by
  have h2 : laidMet Tryd.prog Rows.fnExactShowReplyRow.laid W := by rw [MakeChecks.laidMetH_plain _ _ _ (by kernel_rfl)] at h; exact h
  have m1 : ("internal/strconv.uint64pow10", (Lib.tabData .u64 Lib.pow10Tab : DataW Unit)) ∈ Rows.fnExactShowReplyRow.laid := by
    rw [show (Lib.tabData .u64 Lib.pow10Tab : DataW Unit) = Rows.laid_internal_strconv_uint64pow10 by kernel_rfl]
    simp [Rows.fnExactShowReplyRow]
  have m2 : ("loop.example/g00401/impl.replyWords", (DataW.agg (kws.map fun s => .lit (.string s.data.toList)) : DataW Unit)) ∈ Rows.fnExactShowReplyRow.laid := by
    rw [show (DataW.agg (kws.map fun s => .lit (.string s.data.toList)) : DataW Unit) = Rows.laid_loop_example_g00401_impl_replyWords by kernel_rfl]
    simp [Rows.fnExactShowReplyRow]
  exact ⟨strs_get (g := 0) h2 m2 (by kernel_rfl) (by kernel_rfl) Tryd.underlying72 Tryd.underlying9 (by kernel_rfl) (by kernel_rfl), tab_get (g := 3) h2 m1 (by kernel_rfl) (by kernel_rfl) Tryd.underlying130 Tryd.underlying115 (by kernel_rfl) (by kernel_rfl)⟩

/-! ### the walk -/
set_option maxRecDepth 100000 in
set_option maxHeartbeats 4000000 in
theorem walk (K : Int) (N : ByteArray) (F : Int) (B : ByteArray) (C M : Int) (w : World) (en : EnvP w) (hN : N.size ≤ 9223372036854775807) (hB0 : B.size ≤ 9223372036854775807) :
    Calls Tryd.prog 4 #[.agg #[.int .i64 K, .string N, .int .i64 F, .string B, .int .i64 C, .int .i64 M]] w fun e w' => e = .returned (.bool true) ∧ Below w.heap.size w w' := by
  have EN : Hid (EnvP w) := en
  clear en
  obtain ⟨z, hZ⟩ := hid_ex (shRX ⟨K, N, F, B, C, M⟩)
  have hzz : (z.toList == z.toList) = true := by simp
  go_enter Tryd.func4, Tryd.ntmps4
  have mk1 : Hid True := trivial
  have mk2 : Hid True := trivial
  have mk3 : Hid True := trivial
  have mk4 : Hid True := trivial
  have mk5 : Hid True := trivial
  have mk6 : Hid True := trivial
  have mk7 : Hid True := trivial
  have mk8 : Hid True := trivial
  have mk9 : Hid True := trivial
  go_wp2_with (first | (clear mk1; refine wpList_box_v rfl 32 _ rfl [.int .i64 K, .string N, .int .i64 F, .string B, .int .i64 C, .int .i64 M] rfl ?_; intro bA w1 hbA hwbA hB1 cA; have hz1 : w.heap.size ≤ w1.heap.size := hB1.size; have hB := hB1; have hzw := hB.size) | (clear mk2; refine wpList_load_r rfl 32 _ rfl bA 0 [.int .i64 K, .string N, .int .i64 F, .string B, .int .i64 C, .int .i64 M] rfl _ Tryd.underlying32 rfl sizeLRp cA.range ?_) | (clear mk3; go_at_call 14; refine (szRp_any K N F B C M hN hB0 1048576 (by omega) (by omega) _).mono ?_; rintro er w2 ⟨Z, rfl, hB2, -, hr⟩; have hz2 : w1.heap.size ≤ w2.heap.size := hB2.size; replace hB := hB.trans (hB2.mono (by omega)); replace hzw := hB.size; replace cA := vblk_grow cA hB2; by_cases hneg : Z < 0) | (clear mk4; refine wpList_load_r rfl 32 _ rfl bA 0 [.int .i64 K, .string N, .int .i64 F, .string B, .int .i64 C, .int .i64 M] rfl _ Tryd.underlying32 rfl sizeLRp cA.range ?_) | (clear mk5; go_at_call 16; refine (toRp_any K N F B C M _).mono ?_; rintro er w3 ⟨rfl, hB3⟩; have hz3 : w2.heap.size ≤ w3.heap.size := hB3.size; replace hB := hB.trans (hB3.mono (by omega)); replace hzw := hB.size; replace cA := vblk_grow cA hB3) | (clear mk6; go_at_call 15; refine (specShowReply_any K N F B C M _ hZ (by omega) (by omega) _).mono ?_; rintro er w4 ⟨rfl, hB4⟩; have hz4 : w3.heap.size ≤ w4.heap.size := hB4.size; replace hB := hB.trans (hB4.mono (by omega)); replace hzw := hB.size; replace cA := vblk_grow cA hB4) | (clear mk7; refine wpList_load_r rfl 32 _ rfl bA 0 [.int .i64 K, .string N, .int .i64 F, .string B, .int .i64 C, .int .i64 M] rfl _ Tryd.underlying32 rfl sizeLRp cA.range ?_) | (clear mk8; go_at_call 16; refine (toRp_any K N F B C M _).mono ?_; rintro er w5 ⟨rfl, hB5⟩; have hz5 : w4.heap.size ≤ w5.heap.size := hB5.size; replace hB := hB.trans (hB5.mono (by omega)); replace hzw := hB.size; replace cA := vblk_grow cA hB5) | (clear mk9; go_at_call 17; refine (implShowReply_any K N F B C M _ hZ (by omega) (by omega) _ (EN.out.grow hB)).mono ?_; rintro er w6 ⟨rfl, hB6⟩; have hz6 : w5.heap.size ≤ w6.heap.size := hB6.size; replace hB := hB.trans (hB6.mono (by omega)); replace hzw := hB.size; replace cA := vblk_grow cA hB6) | (fail))
  · go_ret
    exact ⟨rfl, hB⟩
  · go_ret
    exact ⟨rfl, hB⟩

/-! ### the row, by the frame -/
set_option maxRecDepth 100000 in
theorem lifted (os : Os) (started : os.Started) (H : Type) (enc : TypeId × Value → H) :
    ReturnsInHanded {} Tryd.checked os 4 .any (fun w args => (Rows.fnExactShowReplySpec.pre enc Tryd.prog Tryd.f4 Rows.fnExactShowReplyRow.domain false w args ∧ laidMetH Tryd.prog Rows.fnExactShowReplyRow.laid w) ∧ sizedMet enc Tryd.prog Tryd.f4 (OpenSpec.ofChange Rows.fnExactShowReplySpec) false w args)
      (Rows.fnExactShowReplySpec.post enc Tryd.prog Tryd.f4 false true false false) := by
  refine returnsInHanded_of_change_and (C := Tryd.checked) (X := fun w _ => laidMetH Tryd.prog Rows.fnExactShowReplyRow.laid w) (fun _ _ _ hh h => h.of_heap hh) own started (by kernel_rfl) Tryd.func4
    (ChangeSpec.witness_shaped (enc := enc) (C := Tryd.checked) (os := os) (X := fun w _ => laidMetH Tryd.prog Rows.fnExactShowReplyRow.laid w) false (World.laidAll Tryd.prog os Rows.fnExactShowReplyRow.laid) #[.agg #[.int .i64 0, .string ByteArray.empty, .int .i64 0, .string ByteArray.empty, .int .i64 0, .int .i64 0]] 8 (World.laidAll_os _ _ _)
      (World.shaped_of_ZipB (by kernel_rfl) (by kernel_rfl)) (by kernel_rfl) (by kernel_rfl) (by kernel_rfl)
      (by rw [MakeChecks.laidMetH_plain _ _ _ (by kernel_rfl)]; exact laidMet_laidAll _ (by kernel_rfl) (by kernel_rfl))) ?_
  intro W base args ds gs before hval0 hW hcnd _ hL _
  have hval : ∀ (j : Nat) t v, Tryd.f4.params[j]? = some t → args[j]? = some v → Value.okWide Tryd.prog W .any base t v := hval0
  have hW' := hW
  obtain ⟨p, q, hA0, hV, rfl, hfz, hnd⟩ := hW
  have hA : DataW.TrodAll enc Tryd.prog W 0 (fun _ => true) true Tryd.f4.params.toList args.toList ds p := hA0
  rw [Tryd.params4] at hA hval
  obtain ⟨v0, vs0, d0, ds0, p0, q0, hargs, rfl, rfl, h0, r0⟩ := trodAll_cons hA
  obtain ⟨rfl, rfl, rfl⟩ := trodAll_nil r0
  obtain rfl : args = #[v0] := by cases args; simp_all
  obtain ⟨g1, rfl⟩ : ∃ g1, gs = [g1] := by
    cases gs with
    | nil => exact (show False from hV).elim
    | cons g1 r =>
      cases r with
      | nil => exact ⟨g1, rfl⟩
      | cons a b =>
        obtain ⟨_, _, _, _, _, _, _, _, _, _, hs, _⟩ := hV
        exact (show False from hs).elim
  have k0 := h0
  have lt0 : ∀ x ∈ p0, x.block < W.heap.size := by obtain ⟨m, hm⟩ := k0; exact DataW.trod_lt m _ _ _ hm
  obtain ⟨K0, N0, F0, B0, C0, M0, rfl, sN0, sB0⟩ := openRp (hval 0 32 v0 rfl rfl) h0
  clear hA0 hval0
  refine (walk K0 N0 F0 B0 C0 M0 W (envOf hL) sN0 sB0).mono fun e W' ⟨he, bel⟩ => ?_
  subst he
  exact ⟨_, rfl, _, _, _, [], _, q, hW', trodAll_mk1 (shut_bool Tryd.underlying4 _), (trodAll_cons_mk (Below.trod laidOut (by kernel_rfl) (of_decide_eq_true (by kernel_rfl)) k0 bel lt0) trodAll_mk0), bel.trodVars laidOut (by kernel_rfl) hV, bel.frame _, fun h => by cases h⟩

theorem over : Rows.fnExactShowReplyRow.holds Tryd.pinned (OpenSpec.ofChange Rows.fnExactShowReplySpec) :=
  OpenClaim.holds_of_wide 4 Tryd.f4 rfl rfl rfl rfl rfl rfl rfl ⟨rfl, rfl, rfl, rfl, rfl⟩ rfl rfl rfl rfl rfl (by kernel_rfl) Tryd.func4 (by kernel_rfl)
    (of_decide_eq_true (by kernel_rfl)) (by unfold Func.isWrapper; first | (rw [if_pos (by decide +kernel)]; kernel_rfl) | (rw [if_neg (by decide +kernel)]; exact ⟨rfl, rfl⟩))
    (fun os started H enc _ => lifted os started H enc)

/-- the card: the row, its listed variables tied to the program's text -/
theorem proved : Rows.FnExactShowReplyCardSaid :=
  Claim7.holds_tied_plain_at .later [] [.data, .data, .data, .data] true Rows.fnExactShowReplyCard.stood.harness true over (fun _ h => by cases h) (by kernel_rfl) (fun _ h => by cases h) fnExactShowReply_row_tie rfl ⟨rfl, rfl⟩ (by kernel_rfl) rfl
    (fun f fn hf hfn => by
      obtain rfl : f = 4 := Option.some.inj ((show Tryd.prog.funcNamed "loop.example/g00401/laws.FnExactShowReply" = some 4 by kernel_rfl).symm.trans hf) |>.symm
      obtain rfl : fn = Tryd.f4 := (Option.some.inj (Tryd.func4.symm.trans hfn)).symm
      exact ⟨by kernel_rfl, fun j t ht => by
        rw [Tryd.params4] at ht
        have hm : t ∈ [32] := by simpa using Array.mem_of_getElem? ht
        have hall : ([32].all fun u => !Tryd.prog.wantsStandIn u) = true := by kernel_rfl
        exact (show Tryd.prog.wantsStandIn t = false by simpa using List.all_eq_true.1 hall t hm)⟩)
    (by kernel_rfl)
end Go.Proofs.YtefmndjoailemaaDoor.fnExactShowReply

namespace Go.Proofs.YtefmndjoailemaaDoor
/-- the statement, under its short name -/
theorem fnExactShowReply_holds : Rows.FnExactShowReplyCardSaid := fnExactShowReply.proved
#print axioms fnExactShowReply_holds
end Go.Proofs.YtefmndjoailemaaDoor
