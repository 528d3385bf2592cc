/- For every tally the program's ShowTally answers as the model's ShowTally: the law's call returns true and its arguments read as before; no condition. A tied card: the listed package-level variables (tables of Go's library) are tied to the program's text by the given tie; the pruned copy of the project alone is spoken of. -/
import Derived.Test.YtfdkcldbbfgaiaaDoorSh3
import Derived.OpenShut
import Derived.Test.YtfdkcldbbfgaiaaDoorCards
import Derived.Test.YtfdkcldbbfgaiaaDoorTie
import Derived.SevenTiedAt
import Derived.OpenVars
import Derived.Lay
import Derived.LaidMore
import Derived.Stop.Joined
namespace Go.Proofs.YtfdkcldbbfgaiaaDoor.fnExactShowTally
open Go.ChangeShapes Go.WideShapes Go.ChangeAt Go.RowKit
open Go.Proofs.YtfdkcldbbfgaiaaDoor.ce Go.Proofs.YtfdkcldbbfgaiaaDoor.ro Go.Proofs.YtfdkcldbbfgaiaaDoor.rg Go.Proofs.YtfdkcldbbfgaiaaDoor.cm
open Go.ChangeMaps (open_string shut_string)
set_option linter.unusedVariables false

theorem own : ownKnob Tryd.prog.godebug = none := by kernel_rfl
theorem laidOut : laidOutB Tryd.prog = true := by kernel_rfl
/-- what the listed variables give: the tens -/
theorem envOf {W : World} (h : laidMetH Tryd.prog Rows.fnExactShowTallyRow.laid W) : EnvT W := by
  have h2 : laidMet Tryd.prog Rows.fnExactShowTallyRow.laid W := by rw [MakeChecks.laidMetH_plain _ _ _ (by kernel_rfl)] at h; exact h
  have m1 : ("internal/strconv.uint64pow10", (Lib.tabData .u64 Lib.pow10Tab : DataW Unit)) ∈ Rows.fnExactShowTallyRow.laid := by
    rw [show (Lib.tabData .u64 Lib.pow10Tab : DataW Unit) = Rows.laid_internal_strconv_uint64pow10 by kernel_rfl]
    simp [Rows.fnExactShowTallyRow]
  exact ⟨tab_get (g := 0) h2 m1 (by kernel_rfl) (by kernel_rfl) Tryd.underlying68 Tryd.underlying58 (by kernel_rfl) (by kernel_rfl)⟩

/-! ### the walk -/
set_option maxRecDepth 100000 in
set_option maxHeartbeats 4000000 in
theorem walk (A H S D O : Int) (w : World) (en : EnvT w)  :
    Calls Tryd.prog 3 #[.agg #[.int .i64 A, .int .i64 H, .int .i64 S, .int .i64 D, .int .i64 O]] w fun e w' => e = .returned (.bool true) ∧ Below w.heap.size w w' := by
  have EN : Hid (EnvT w) := en
  clear en
  obtain ⟨z, hz⟩ := hid_ex (shTx ⟨A, H, S, D, O⟩)
  have hzz : (z.toList == z.toList) = true := by simp
  go_enter Tryd.func3, Tryd.ntmps3
  have mk1 : Hid True := trivial
  have mk2 : Hid True := trivial
  have mk3 : Hid True := trivial
  have mk4 : Hid True := trivial
  have mk5 : Hid True := trivial
  have mk6 : Hid True := trivial
  have mk7 : Hid True := trivial
  go_wp2_with (first | (clear mk1; refine wpList_box_v rfl 23 _ rfl [.int .i64 A, .int .i64 H, .int .i64 S, .int .i64 D, .int .i64 O] rfl ?_; intro bt w1 hbt hwbt hB1 ct; have hz1 : w.heap.size ≤ w1.heap.size := hB1.size; have hB := hB1; have hzw := hB.size; obtain ⟨ct0, ct1, ct2, ct3, ct4⟩ := cells5 ct) | (clear mk2; refine wpList_load_r rfl 23 _ rfl bt 0 [.int .i64 A, .int .i64 H, .int .i64 S, .int .i64 D, .int .i64 O] rfl _ Tryd.underlying23 rfl sizeLTl ct.range ?_) | (clear mk3; go_at_call 5; refine (toTl_any A H S D O _).mono ?_; rintro er w2 ⟨rfl, hB2⟩; have hz2 : w1.heap.size ≤ w2.heap.size := hB2.size; replace ct := vblk_grow ct hB2; replace hB := hB.trans (hB2.mono (by omega)); replace hzw := hB.size; clear ct0 ct1 ct2 ct3 ct4; obtain ⟨ct0, ct1, ct2, ct3, ct4⟩ := cells5 ct) | (clear mk4; go_at_call 4; refine (specShowTally_any A H S D O z hz _).mono ?_; rintro er w3 ⟨rfl, hB3⟩; have hz3 : w2.heap.size ≤ w3.heap.size := hB3.size; replace ct := vblk_grow ct hB3; replace hB := hB.trans (hB3.mono (by omega)); replace hzw := hB.size; clear ct0 ct1 ct2 ct3 ct4; obtain ⟨ct0, ct1, ct2, ct3, ct4⟩ := cells5 ct) | (clear mk5; refine wpList_load_r rfl 23 _ rfl bt 0 [.int .i64 A, .int .i64 H, .int .i64 S, .int .i64 D, .int .i64 O] rfl _ Tryd.underlying23 rfl sizeLTl ct.range ?_) | (clear mk6; go_at_call 5; refine (toTl_any A H S D O _).mono ?_; rintro er w4 ⟨rfl, hB4⟩; have hz4 : w3.heap.size ≤ w4.heap.size := hB4.size; replace ct := vblk_grow ct hB4; replace hB := hB.trans (hB4.mono (by omega)); replace hzw := hB.size; clear ct0 ct1 ct2 ct3 ct4; obtain ⟨ct0, ct1, ct2, ct3, ct4⟩ := cells5 ct) | (clear mk7; go_at_call 6; refine (implShowTally_any A H S D O z hz _ (EN.out.grow hB)).mono ?_; rintro er w5 ⟨rfl, hB5⟩; have hz5 : w4.heap.size ≤ w5.heap.size := hB5.size; replace ct := vblk_grow ct hB5; replace hB := hB.trans (hB5.mono (by omega)); replace hzw := hB.size; clear ct0 ct1 ct2 ct3 ct4; obtain ⟨ct0, ct1, ct2, ct3, ct4⟩ := cells5 ct) | (fail))
  go_ret
  exact ⟨rfl, hB⟩

/-! ### the row, by the frame -/
set_option maxRecDepth 100000 in
theorem lifted (os : Os) (started : os.Started) (H : Type) (enc : TypeId × Value → H) :
    ReturnsInHanded {} Tryd.checked os 3 .any (fun w args => (Rows.fnExactShowTallySpec.pre enc Tryd.prog Tryd.f3 Rows.fnExactShowTallyRow.domain false w args ∧ laidMetH Tryd.prog Rows.fnExactShowTallyRow.laid w) ∧ sizedMet enc Tryd.prog Tryd.f3 (OpenSpec.ofChange Rows.fnExactShowTallySpec) false w args)
      (Rows.fnExactShowTallySpec.post enc Tryd.prog Tryd.f3 false true false false) := by
  refine returnsInHanded_of_change_and (C := Tryd.checked) (X := fun w _ => laidMetH Tryd.prog Rows.fnExactShowTallyRow.laid w) (fun _ _ _ hh h => h.of_heap hh) own started (by kernel_rfl) Tryd.func3
    (ChangeSpec.witness_shaped (enc := enc) (C := Tryd.checked) (os := os) (X := fun w _ => laidMetH Tryd.prog Rows.fnExactShowTallyRow.laid w) false (World.laidAll Tryd.prog os Rows.fnExactShowTallyRow.laid) #[.agg #[.int .i64 0, .int .i64 0, .int .i64 0, .int .i64 0, .int .i64 0]] 8 (World.laidAll_os _ _ _)
      (World.shaped_of_ZipB (by kernel_rfl) (by kernel_rfl)) (by kernel_rfl) (by kernel_rfl) (by kernel_rfl)
      (by rw [MakeChecks.laidMetH_plain _ _ _ (by kernel_rfl)]; exact laidMet_laidAll _ (by kernel_rfl) (by kernel_rfl))) ?_
  intro W base args ds gs before hval0 hW hcnd _ hL _
  have hval : ∀ (j : Nat) t v, Tryd.f3.params[j]? = some t → args[j]? = some v → Value.okWide Tryd.prog W .any base t v := hval0
  have hW' := hW
  obtain ⟨p, q, hA0, hV, rfl, hfz, hnd⟩ := hW
  have hA : DataW.TrodAll enc Tryd.prog W 0 (fun _ => true) true Tryd.f3.params.toList args.toList ds p := hA0
  rw [Tryd.params3] at hA hval
  obtain ⟨v0, vs0, d0, ds0, p0, q0, hargs, rfl, rfl, h0, r0⟩ := trodAll_cons hA
  obtain ⟨rfl, rfl, rfl⟩ := trodAll_nil r0
  obtain rfl : args = #[v0] := by cases args; simp_all
  obtain ⟨rfl, rfl⟩ := trodVars_none hV
  have k0 := h0
  have lt0 : ∀ x ∈ p0, x.block < W.heap.size := by obtain ⟨m, hm⟩ := k0; exact DataW.trod_lt m _ _ _ hm
  obtain ⟨A0, H0, S0, D0, O0, rfl, -⟩ := openTl (hval 0 23 v0 rfl rfl) h0
  clear hA0 hval0
  refine (walk A0 H0 S0 D0 O0 W (envOf hL) ).mono fun e W' ⟨he, bel⟩ => ?_
  subst he
  exact ⟨_, rfl, _, _, _, [], _, [], hW', trodAll_mk1 (shut_bool Tryd.underlying4 _), (trodAll_cons_mk (Below.trod laidOut (by kernel_rfl) (of_decide_eq_true (by kernel_rfl)) k0 bel lt0) trodAll_mk0), rfl, bel.frame _, fun h => by cases h⟩

theorem over : Rows.fnExactShowTallyRow.holds Tryd.pinned (OpenSpec.ofChange Rows.fnExactShowTallySpec) :=
  OpenClaim.holds_of_wide 3 Tryd.f3 rfl rfl rfl rfl rfl rfl rfl ⟨rfl, rfl, rfl, rfl, rfl⟩ rfl rfl rfl rfl rfl (by kernel_rfl) Tryd.func3 (by kernel_rfl)
    (of_decide_eq_true (by kernel_rfl)) (by unfold Func.isWrapper; first | (rw [if_pos (by decide +kernel)]; kernel_rfl) | (rw [if_neg (by decide +kernel)]; exact ⟨rfl, rfl⟩))
    (fun os started H enc _ => lifted os started H enc)

/-- the card: the row, its listed variables tied to the program's text -/
theorem proved : Rows.FnExactShowTallyCardSaid :=
  Claim7.holds_tied_plain_at .later [] [.data, .data, .data] true Rows.fnExactShowTallyCard.stood.harness false over (fun _ h => by cases h) (by kernel_rfl) (fun _ h => by cases h) fnExactShowTally_row_tie rfl ⟨rfl, rfl⟩ (by kernel_rfl) rfl
    (fun f fn hf hfn => by
      obtain rfl : f = 3 := Option.some.inj ((show Tryd.prog.funcNamed "loop.example/g00401/laws.FnExactShowTally" = some 3 by kernel_rfl).symm.trans hf) |>.symm
      obtain rfl : fn = Tryd.f3 := (Option.some.inj (Tryd.func3.symm.trans hfn)).symm
      exact ⟨by kernel_rfl, fun j t ht => by
        rw [Tryd.params3] at ht
        have hm : t ∈ [23] := by simpa using Array.mem_of_getElem? ht
        have hall : ([23].all fun u => !Tryd.prog.wantsStandIn u) = true := by kernel_rfl
        exact (show Tryd.prog.wantsStandIn t = false by simpa using List.all_eq_true.1 hall t hm)⟩)
    (by kernel_rfl)
end Go.Proofs.YtfdkcldbbfgaiaaDoor.fnExactShowTally

namespace Go.Proofs.YtfdkcldbbfgaiaaDoor
/-- the statement, under its short name -/
theorem fnExactShowTally_holds : Rows.FnExactShowTallyCardSaid := fnExactShowTally.proved
#print axioms fnExactShowTally_holds
end Go.Proofs.YtfdkcldbbfgaiaaDoor
