/- For every text the program's Cmds answers as the model's Cmds, its answer owns its memory, behind another call too (the law itself lets off what has over 1048576 bytes): the law's call returns true and its arguments read as before; no condition. A tied card: the listed package-level variables (the verbs' words, tables and errors of Go's library) are tied to the program's text by the given tie; the pruned copy of the project alone is spoken of. -/
import Derived.Test.YtefmndjoailemaaDoorCg1
import Derived.Test.YtefmndjoailemaaDoorHs1
import Derived.Test.YtefmndjoailemaaDoorMkCm
import Derived.Test.YtefmndjoailemaaDoorMkN
import Derived.Test.YtefmndjoailemaaDoorCards
import Derived.Test.YtefmndjoailemaaDoorTie
import Derived.SevenTiedAt
import Derived.OpenVars
import Derived.Lay
import Derived.LaidMore
import Derived.Stop.Joined
namespace Go.Proofs.YtefmndjoailemaaDoor.fnExactCmds
open Go.ChangeShapes Go.WideShapes Go.ChangeAt Go.RowKit
open Go.Proofs.YtefmndjoailemaaDoor.ce Go.Proofs.YtefmndjoailemaaDoor.ro Go.Proofs.YtefmndjoailemaaDoor.rg Go.Proofs.YtefmndjoailemaaDoor.cm
open Go.ChangeMaps (open_string shut_string)
set_option linter.unusedVariables false

theorem own : ownKnob Tryd.prog.godebug = none := by kernel_rfl
theorem laidOut : laidOutB Tryd.prog = true := by kernel_rfl
/-- what the listed variables give: the verbs' words, the tens, the error, the one number -/
theorem envOf {W : World} (hsh : W.ShapedOpen Tryd.prog) (h : laidMetH Tryd.prog Rows.fnExactCmdsRow.laid W) : EnvR W := by
  have h2 : laidMet Tryd.prog Rows.fnExactCmdsRow.laid W := by rw [MakeChecks.laidMetH_plain _ _ _ (by kernel_rfl)] at h; exact h
  have m1 : ("internal/strconv.uint64pow10", (Lib.tabData .u64 Lib.pow10Tab : DataW Unit)) ∈ Rows.fnExactCmdsRow.laid := by
    rw [show (Lib.tabData .u64 Lib.pow10Tab : DataW Unit) = Rows.laid_internal_strconv_uint64pow10 by kernel_rfl]
    simp [Rows.fnExactCmdsRow]
  have m2 : ("loop.example/g00401/impl.verbWords", (DataW.agg (vws.map fun s => .lit (.string s.data.toList)) : DataW Unit)) ∈ Rows.fnExactCmdsRow.laid := by
    rw [show (DataW.agg (vws.map fun s => .lit (.string s.data.toList)) : DataW Unit) = Rows.laid_loop_example_g00401_impl_verbWords by kernel_rfl]
    simp [Rows.fnExactCmdsRow]
  have m3 : ("strconv.ErrSyntax", (DataW.iface "*errors.errorString" (.ptr (.agg [.lit (.string [105, 110, 118, 97, 108, 105, 100, 32, 115, 121, 110, 116, 97, 120])])) : DataW Unit)) ∈ Rows.fnExactCmdsRow.laid := by
    rw [show (DataW.iface "*errors.errorString" (.ptr (.agg [.lit (.string [105, 110, 118, 97, 108, 105, 100, 32, 115, 121, 110, 116, 97, 120])])) : DataW Unit) = Rows.laid_strconv_ErrSyntax by kernel_rfl]
    simp [Rows.fnExactCmdsRow]
  refine ⟨?_, iface_get (g := 6) h2 m3 (by kernel_rfl) (by kernel_rfl) ⟨_, Tryd.underlying106⟩, cell_of_shapedOpen_int (g := 2) (t := 3) (zero := #[.int .i64 0]) hsh (of_decide_eq_true (by kernel_rfl)) (by kernel_rfl) rfl (by kernel_rfl) (by kernel_rfl) Tryd.underlying3⟩
  exact ⟨strs_get (g := 1) h2 m2 (by kernel_rfl) (by kernel_rfl) Tryd.underlying97 Tryd.underlying9 (by kernel_rfl) (by kernel_rfl), tab_get (g := 3) h2 m1 (by kernel_rfl) (by kernel_rfl) Tryd.underlying130 Tryd.underlying115 (by kernel_rfl) (by kernel_rfl)⟩

/-! ### the walk -/
set_option maxRecDepth 100000 in
set_option maxHeartbeats 4000000 in
theorem walk (s : ByteArray) (w : World) (en : EnvR w) (hs : s.size ≤ 9223372036854775807) :
    Calls Tryd.prog 3 #[.string s] w fun e w' => e = .returned (.bool true) ∧ Below w.heap.size w w' := by
  have EN : Hid (EnvR w) := en
  clear en
  obtain ⟨⟨G, K, n⟩, hG⟩ := hid_ex (cmdsL (bs s))
  by_cases hbig : (1048576 : Int) < (s.size : Int)
  · go_enter Tryd.func3, Tryd.ntmps3
    go_wp2
    go_ret
    exact ⟨rfl, Below.refl _ _⟩
  have hs1 : s.size ≤ 1048576 := by omega
  have hln := cmds_lens (bs s).length (bs s) (Nat.le_refl _)
  rw [hG.out, bs_len] at hln
  have hGl : G.length ≤ 1048576 := Nat.le_trans hln.1 hs1
  have hKl : K.length ≤ 1048576 := Nat.le_trans hln.2 hs1
  clear hln
  obtain ⟨mA, hmA⟩ := hid_ex (1 + 8 * G.length)
  obtain ⟨mB, hmB⟩ := hid_ex (mA + K.length)
  have hmA2 : 1 ≤ mA ∧ mA ≤ 9000000 := by have := hmA.out; omega
  have hmB2 : 1 ≤ mB ∧ mB ≤ 11000000 := by have := hmB.out; omega
  have hmn : ((n : Int) != (n : Int)) = false := by simp
  have hmm : ((mB : Int) != (mB : Int)) = false := by simp
  have hA0 : ¬ (mA : Int) < 0 := by omega
  have hB0 : ¬ (mB : Int) < 0 := by omega
  go_enter Tryd.func3, Tryd.ntmps3
  have mk1 : Hid True := trivial
  have mk2 : Hid True := trivial
  have mk3 : Hid True := trivial
  have mk4 : Hid True := trivial
  have mk5 : Hid True := trivial
  have mk6 : Hid True := trivial
  have mk7 : Hid True := trivial
  have mk8 : Hid True := trivial
  have mk9 : Hid True := trivial
  have mk10 : Hid True := trivial
  have mk11 : Hid True := trivial
  have mk12 : Hid True := trivial
  have mk13 : Hid True := trivial
  go_wp2_with (first | (clear mk1; go_at_call 6; refine (specCmds_any s hs1 _).mono ?_; rintro er w1 ⟨vo1, vc1, rfl, oo1, oc1, hB1⟩; have hz1 : w.heap.size ≤ w1.heap.size := hB1.size; have hB := hB1; have hzw := hB.size; rw [hG.out] at oo1 oc1; (try rw [hG.out]); dsimp only at oo1 oc1; obtain ⟨ao1, no1, ko1, rfl⟩ := oo1.slice; obtain ⟨ac1, nc1, kc1, rfl⟩ := oc1.slice) | (clear mk2; go_at_call 7; refine (implCmds_any s hs1 _ (EN.out.grow hB)).mono ?_; rintro er w2 ⟨vo2, vc2, rfl, oo2, oc2, hB2⟩; have hz2 : w1.heap.size ≤ w2.heap.size := hB2.size; replace oo1 := oo1.grow hB2; replace oc1 := oc1.grow hB2; replace hB := hB.trans (hB2.mono (by omega)); replace hzw := hB.size; rw [hG.out] at oo2 oc2; (try rw [hG.out]); dsimp only at oo2 oc2; obtain ⟨ao2, no2, ko2, rfl⟩ := oo2.slice; obtain ⟨ac2, nc2, kc2, rfl⟩ := oc2.slice) | (clear mk3; go_at_call 8; refine (eqCms_any G _ _ _ oo2.rd oo1.rd).mono ?_; rintro er w3 ⟨rfl, hB3⟩; have hz3 : w2.heap.size ≤ w3.heap.size := hB3.size; replace oo1 := oo1.grow hB3; replace oc1 := oc1.grow hB3; replace oo2 := oo2.grow hB3; replace oc2 := oc2.grow hB3; replace hB := hB.trans (hB3.mono (by omega)); replace hzw := hB.size) | (clear mk4; go_at_call 9; refine (eqNs_any K _ _ _ oc2.rd oc1.rd).mono ?_; rintro er w4 ⟨rfl, hB4⟩; have hz4 : w3.heap.size ≤ w4.heap.size := hB4.size; replace oo1 := oo1.grow hB4; replace oc1 := oc1.grow hB4; replace oo2 := oo2.grow hB4; replace oc2 := oc2.grow hB4; replace hB := hB.trans (hB4.mono (by omega)); replace hzw := hB.size) | (clear mk5; go_at_call 10; refine (markCms_any G _ w1.heap.size w2.heap.size 1 (by omega) (by omega) mA hmA.out.symm _ oo2 (by omega)).mono ?_; rintro er w5 ⟨rfl, pp2, hM5, hY5⟩; have hz5 : w4.heap.size ≤ w5.heap.size := hM5.size; replace oo1 := oo1.within hM5 (by omega); replace oc1 := oc1.within hM5 (by omega); replace hB := hB.trans (hM5.below (by omega) (by omega)); replace hzw := hB.size; replace oc2 := hY5.own oc2 (by decide); clear oo2; have oo2 := pp2; clear pp2) | (clear mk6; go_at_call 11; refine (markNs_any K _ w1.heap.size w2.heap.size mA (by omega) (by omega) mB hmB.out.symm _ oc2).mono ?_; rintro er w6 ⟨rfl, pp2, hM6, hY6⟩; have hz6 : w5.heap.size ≤ w6.heap.size := hM6.size; replace oo1 := oo1.within hM6 (by omega); replace oc1 := oc1.within hM6 (by omega); replace hB := hB.trans (hM6.below (by omega) (by omega)); replace hzw := hB.size; replace oo2 := hY6.own oo2 (by decide); clear oc2; have oc2 := pp2; clear pp2) | (clear mk7; go_at_call 12; refine (heldCms_any G.length _ 1 (by omega) (by omega) mA hmA.out.symm _ oo2.rd).mono ?_; rintro er w7 ⟨rfl, hB7⟩; have hz7 : w6.heap.size ≤ w7.heap.size := hB7.size; replace oo1 := oo1.grow hB7; replace oc1 := oc1.grow hB7; replace oo2 := oo2.grow hB7; replace oc2 := oc2.grow hB7; replace hB := hB.trans (hB7.mono (by omega)); replace hzw := hB.size) | (clear mk8; go_at_call 13; refine (heldNs_any K.length _ mA (by omega) (by omega) mB hmB.out.symm _ oc2.rd).mono ?_; rintro er wq ⟨rfl, hq⟩; subst wq) | (clear mk9; go_at_call 7; refine (implCmds_any s hs1 _ (EN.out.grow hB)).mono ?_; rintro er w8 ⟨vo3, vc3, rfl, oo3, oc3, hB8⟩; have hz8 : w7.heap.size ≤ w8.heap.size := hB8.size; replace oo1 := oo1.grow hB8; replace oc1 := oc1.grow hB8; replace oo2 := oo2.grow hB8; replace oc2 := oc2.grow hB8; replace hB := hB.trans (hB8.mono (by omega)); replace hzw := hB.size; rw [hG.out] at oo3 oc3; (try rw [hG.out]); dsimp only at oo3 oc3; obtain ⟨ao3, no3, ko3, rfl⟩ := oo3.slice; obtain ⟨ac3, nc3, kc3, rfl⟩ := oc3.slice) | (clear mk10; go_at_call 8; refine (eqCms_any G _ _ _ oo3.rd oo1.rd).mono ?_; rintro er w9 ⟨rfl, hB9⟩; have hz9 : w8.heap.size ≤ w9.heap.size := hB9.size; replace oo1 := oo1.grow hB9; replace oc1 := oc1.grow hB9; replace oo2 := oo2.grow hB9; replace oc2 := oc2.grow hB9; replace oo3 := oo3.grow hB9; replace oc3 := oc3.grow hB9; replace hB := hB.trans (hB9.mono (by omega)); replace hzw := hB.size) | (clear mk11; go_at_call 9; refine (eqNs_any K _ _ _ oc3.rd oc1.rd).mono ?_; rintro er w10 ⟨rfl, hB10⟩; have hz10 : w9.heap.size ≤ w10.heap.size := hB10.size; replace oo1 := oo1.grow hB10; replace oc1 := oc1.grow hB10; replace oo2 := oo2.grow hB10; replace oc2 := oc2.grow hB10; replace oo3 := oo3.grow hB10; replace oc3 := oc3.grow hB10; replace hB := hB.trans (hB10.mono (by omega)); replace hzw := hB.size) | (clear mk12; go_at_call 12; refine (heldCms_any G.length _ 1 (by omega) (by omega) mA hmA.out.symm _ oo2.rd).mono ?_; rintro er w11 ⟨rfl, hB11⟩; have hz11 : w10.heap.size ≤ w11.heap.size := hB11.size; replace oo1 := oo1.grow hB11; replace oc1 := oc1.grow hB11; replace oo2 := oo2.grow hB11; replace oc2 := oc2.grow hB11; replace oo3 := oo3.grow hB11; replace oc3 := oc3.grow hB11; replace hB := hB.trans (hB11.mono (by omega)); replace hzw := hB.size) | (clear mk13; go_at_call 13; refine (heldNs_any K.length _ mA (by omega) (by omega) mB hmB.out.symm _ oc2.rd).mono ?_; rintro er wq ⟨rfl, hq⟩; subst wq) | (fail))
  go_ret
  exact ⟨rfl, hB⟩

/-! ### the row, by the frame -/
set_option maxRecDepth 100000 in
theorem lifted (os : Os) (started : os.Started) (H : Type) (enc : TypeId × Value → H) :
    ReturnsInHanded {} Tryd.checked os 3 .any (fun w args => (Rows.fnExactCmdsSpec.pre enc Tryd.prog Tryd.f3 Rows.fnExactCmdsRow.domain false w args ∧ laidMetH Tryd.prog Rows.fnExactCmdsRow.laid w) ∧ sizedMet enc Tryd.prog Tryd.f3 (OpenSpec.ofChange Rows.fnExactCmdsSpec) false w args)
      (Rows.fnExactCmdsSpec.post enc Tryd.prog Tryd.f3 false true false false) := by
  refine returnsInHanded_laid_shaped (C := Tryd.checked) (X := fun w _ => laidMetH Tryd.prog Rows.fnExactCmdsRow.laid w) (fun _ _ _ hh h => h.of_heap hh) own started (by kernel_rfl) Tryd.func3
    (ChangeSpec.witness_shaped (enc := enc) (C := Tryd.checked) (os := os) (X := fun w _ => laidMetH Tryd.prog Rows.fnExactCmdsRow.laid w) false (World.laidAll Tryd.prog os Rows.fnExactCmdsRow.laid) #[.string ByteArray.empty] 8 (World.laidAll_os _ _ _)
      (World.shaped_of_ZipB (by kernel_rfl) (by kernel_rfl)) (by kernel_rfl) (by kernel_rfl) (by kernel_rfl)
      (by rw [MakeChecks.laidMetH_plain _ _ _ (by kernel_rfl)]; exact laidMet_laidAll _ (by kernel_rfl) (by kernel_rfl))) ?_
  intro W base args ds gs before hval0 hW hcnd _ hL hsh _
  have hval : ∀ (j : Nat) t v, Tryd.f3.params[j]? = some t → args[j]? = some v → Value.okWide Tryd.prog W .any base t v := hval0
  have hW' := hW
  obtain ⟨p, q, hA0, hV, rfl, hfz, hnd⟩ := hW
  have hA : DataW.TrodAll enc Tryd.prog W 0 (fun _ => true) true Tryd.f3.params.toList args.toList ds p := hA0
  rw [Tryd.params3] at hA hval
  obtain ⟨v0, vs0, d0, ds0, p0, q0, hargs, rfl, rfl, h0, r0⟩ := trodAll_cons hA
  obtain ⟨rfl, rfl, rfl⟩ := trodAll_nil r0
  obtain rfl : args = #[v0] := by cases args; simp_all
  obtain ⟨g1, rfl⟩ : ∃ g1, gs = [g1] := by
    cases gs with
    | nil => exact (show False from hV).elim
    | cons g1 r =>
      cases r with
      | nil => exact ⟨g1, rfl⟩
      | cons a b =>
        obtain ⟨_, _, _, _, _, _, _, _, _, _, hs, _⟩ := hV
        exact (show False from hs).elim
  obtain ⟨a0, rfl, rfl, rfl, ws0⟩ := open_string Tryd.underlying9 (hval 0 9 v0 rfl rfl) h0
  clear hA0 hval0
  refine (walk a0 W (envOf hsh hL) ws0).mono fun e W' ⟨he, bel⟩ => ?_
  subst he
  exact ⟨_, rfl, _, _, _, [], _, q, hW', trodAll_mk1 (shut_bool Tryd.underlying4 _), (trodAll_cons_mk (shut_string Tryd.underlying9 ws0) trodAll_mk0), bel.trodVars laidOut (by kernel_rfl) hV, bel.frame _, fun h => by cases h⟩

theorem over : Rows.fnExactCmdsRow.holds Tryd.pinned (OpenSpec.ofChange Rows.fnExactCmdsSpec) :=
  OpenClaim.holds_of_wide 3 Tryd.f3 rfl rfl rfl rfl rfl rfl rfl ⟨rfl, rfl, rfl, rfl, rfl⟩ rfl rfl rfl rfl rfl (by kernel_rfl) Tryd.func3 (by kernel_rfl)
    (of_decide_eq_true (by kernel_rfl)) (by unfold Func.isWrapper; first | (rw [if_pos (by decide +kernel)]; kernel_rfl) | (rw [if_neg (by decide +kernel)]; exact ⟨rfl, rfl⟩))
    (fun os started H enc _ => lifted os started H enc)

/-- the card: the row, its listed variables tied to the program's text -/
theorem proved : Rows.FnExactCmdsCardSaid :=
  Claim7.holds_tied_plain_at .later [] [.data, .data, .data, .data, .sentinel, .sentinel, .data, .pinned] true Rows.fnExactCmdsCard.stood.harness true over (fun _ h => by cases h) (by kernel_rfl) (fun _ h => by cases h) fnExactCmds_row_tie rfl ⟨rfl, rfl⟩ (by kernel_rfl) rfl
    (fun f fn hf hfn => by
      obtain rfl : f = 3 := Option.some.inj ((show Tryd.prog.funcNamed "loop.example/g00401/laws.FnExactCmds" = some 3 by kernel_rfl).symm.trans hf) |>.symm
      obtain rfl : fn = Tryd.f3 := (Option.some.inj (Tryd.func3.symm.trans hfn)).symm
      exact ⟨by kernel_rfl, fun j t ht => by
        rw [Tryd.params3] at ht
        have hm : t ∈ [9] := by simpa using Array.mem_of_getElem? ht
        have hall : ([9].all fun u => !Tryd.prog.wantsStandIn u) = true := by kernel_rfl
        exact (show Tryd.prog.wantsStandIn t = false by simpa using List.all_eq_true.1 hall t hm)⟩)
    (by kernel_rfl)
end Go.Proofs.YtefmndjoailemaaDoor.fnExactCmds

namespace Go.Proofs.YtefmndjoailemaaDoor
/-- the statement, under its short name -/
theorem fnExactCmds_holds : Rows.FnExactCmdsCardSaid := fnExactCmds.proved
#print axioms fnExactCmds_holds
end Go.Proofs.YtefmndjoailemaaDoor
