/- For every text and place the program's ReplyAt answers as the model's ReplyAt (the law itself lets off what has over 1048576 bytes): the law's call returns true and its arguments read as before; no condition. A tied card: the listed package-level variables (the kinds' words, tables and errors of Go's library) are tied to the program's text by the given tie; the pruned copy of the project alone is spoken of. -/
import Derived.Test.YtefmndjoailemaaDoorRaB
import Derived.Test.YtefmndjoailemaaDoorCards
import Derived.Test.YtefmndjoailemaaDoorTie
import Derived.SevenTiedAt
import Derived.OpenVars
import Derived.Lay
import Derived.LaidMore
import Derived.Stop.Joined
namespace Go.Proofs.YtefmndjoailemaaDoor.fnExactReplyAt
open Go.ChangeShapes Go.WideShapes Go.ChangeAt Go.RowKit
open Go.Proofs.YtefmndjoailemaaDoor.ce Go.Proofs.YtefmndjoailemaaDoor.ro Go.Proofs.YtefmndjoailemaaDoor.rg Go.Proofs.YtefmndjoailemaaDoor.cm
open Go.ChangeMaps (open_string shut_string)
set_option linter.unusedVariables false

theorem own : ownKnob Tryd.prog.godebug = none := by kernel_rfl
theorem laidOut : laidOutB Tryd.prog = true := by kernel_rfl
/-- what the listed variables give: the kinds' words, the tens, the error, the one number -/
theorem envOf {W : World} (hsh : W.ShapedOpen Tryd.prog) (h : laidMetH Tryd.prog Rows.fnExactReplyAtRow.laid W) : EnvX W := by
  have h2 : laidMet Tryd.prog Rows.fnExactReplyAtRow.laid W := by rw [MakeChecks.laidMetH_plain _ _ _ (by kernel_rfl)] at h; exact h
  have m1 : ("internal/strconv.uint64pow10", (Lib.tabData .u64 Lib.pow10Tab : DataW Unit)) ∈ Rows.fnExactReplyAtRow.laid := by
    rw [show (Lib.tabData .u64 Lib.pow10Tab : DataW Unit) = Rows.laid_internal_strconv_uint64pow10 by kernel_rfl]
    simp [Rows.fnExactReplyAtRow]
  have m2 : ("loop.example/g00401/impl.replyWords", (DataW.agg (kws.map fun s => .lit (.string s.data.toList)) : DataW Unit)) ∈ Rows.fnExactReplyAtRow.laid := by
    rw [show (DataW.agg (kws.map fun s => .lit (.string s.data.toList)) : DataW Unit) = Rows.laid_loop_example_g00401_impl_replyWords by kernel_rfl]
    simp [Rows.fnExactReplyAtRow]
  have m3 : ("strconv.ErrSyntax", (DataW.iface "*errors.errorString" (.ptr (.agg [.lit (.string [105, 110, 118, 97, 108, 105, 100, 32, 115, 121, 110, 116, 97, 120])])) : DataW Unit)) ∈ Rows.fnExactReplyAtRow.laid := by
    rw [show (DataW.iface "*errors.errorString" (.ptr (.agg [.lit (.string [105, 110, 118, 97, 108, 105, 100, 32, 115, 121, 110, 116, 97, 120])])) : DataW Unit) = Rows.laid_strconv_ErrSyntax by kernel_rfl]
    simp [Rows.fnExactReplyAtRow]
  exact ⟨⟨strs_get (g := 0) h2 m2 (by kernel_rfl) (by kernel_rfl) Tryd.underlying72 Tryd.underlying9 (by kernel_rfl) (by kernel_rfl), tab_get (g := 3) h2 m1 (by kernel_rfl) (by kernel_rfl) Tryd.underlying130 Tryd.underlying115 (by kernel_rfl) (by kernel_rfl)⟩, ⟨tab_get (g := 3) h2 m1 (by kernel_rfl) (by kernel_rfl) Tryd.underlying130 Tryd.underlying115 (by kernel_rfl) (by kernel_rfl), iface_get (g := 6) h2 m3 (by kernel_rfl) (by kernel_rfl) ⟨_, Tryd.underlying106⟩, cell_of_shapedOpen_int (g := 2) (t := 3) (zero := #[.int .i64 0]) hsh (of_decide_eq_true (by kernel_rfl)) (by kernel_rfl) rfl (by kernel_rfl) (by kernel_rfl) Tryd.underlying3⟩⟩

/-! ### the walk -/
set_option maxRecDepth 100000 in
set_option maxHeartbeats 4000000 in
theorem walk (s : ByteArray) (p : Int) (w : World) (en : EnvX w) (hs : s.size ≤ 9223372036854775807) :
    Calls Tryd.prog 5 #[.string s, .int .i64 p] w fun e w' => e = .returned (.bool true) ∧ Below w.heap.size w w' := by
  have EN : Hid (EnvX w) := en
  clear en
  obtain ⟨⟨⟨K, N, F, B, C, M⟩, T⟩, hY⟩ := hid_ex (atR s p)
  have m1 : Hid True := trivial
  have m2 : Hid True := trivial
  have m3 : Hid True := trivial
  by_cases hbig : (1048576 : Int) < (s.size : Int)
  · go_enter Tryd.func5, Tryd.ntmps5
    go_wp2
    go_ret
    exact ⟨rfl, Below.refl _ _⟩
  · have hs1 : s.size ≤ 1048576 := by omega
    go_enter Tryd.func5, Tryd.ntmps5
    go_wp2_with (first | (go_at_call 18; refine (specReplyAt_any s p hs1 _).mono ?_; rw [hY.out]; rintro er w1 ⟨rfl, hB1⟩; dsimp only [csRp]; have hz1 := hB1.size) | (clear m1; refine wpList_alloc_v rfl 35 rfl _ zeroRp ?_; intro b5 w2 hb5 hw5 hB2 V5; have hz2 := hB2.size) | (clear m3; refine wpList_store_v rfl 35 _ _ rfl b5 [.int .i64 K, .string N, .int .i64 F, .string B, .int .i64 C, .int .i64 M] rfl rfl sizeRp V5 rfl (oneRs K N F B C M) ?_; intro w3 hO3 V3; have bT : Below w.heap.size w w3 := (hB1.trans (hB2.mono hz1)).trans (hO3.2.2 _ (by omega)); have l3 := V3.lt) | (go_at_call 19; refine (implReplyAt_any s p hs1 _ (EN.out.grow bT)).mono ?_; rw [hY.out]; rintro er w4 ⟨rfl, hB4⟩; dsimp only [csRp]; have hz4 := hB4.size; have V3b := vblk_grow V3 hB4) | (clear m2; refine wpList_alloc_v rfl 35 rfl _ zeroRp ?_; intro b8 w6 hb8 hw8 hB6 V8; have hz6 := hB6.size; have V3c := vblk_grow V3b hB6) | (refine wpList_store_v rfl 35 _ _ rfl b8 [.int .i64 K, .string N, .int .i64 F, .string B, .int .i64 C, .int .i64 M] rfl rfl sizeRp V8 rfl (oneRs K N F B C M) ?_; intro w7 hO7 V7; have V3d := vblk_only V3c hO7 (by have := V3b.lt; omega); have bU : Below w.heap.size w w7 := ((bT.trans (hB4.mono bT.size)).trans (hB6.mono (by have := bT.size; omega))).trans (hO7.2.2 _ (by have := bT.size; omega)); have mA : Hid True := trivial) | (go_at_call 20; refine (eqRp_any K N F B C M _).mono ?_; rintro er w8 ⟨rfl, hB8⟩) | (clear mA; refine wpList_load_r rfl 35 _ rfl b8 0 [.int .i64 K, .string N, .int .i64 F, .string B, .int .i64 C, .int .i64 M] rfl _ Tryd.underlying35 rfl sizeRp V7.range ?_) | (refine wpList_load_r rfl 35 _ rfl b5 0 [.int .i64 K, .string N, .int .i64 F, .string B, .int .i64 C, .int .i64 M] rfl _ Tryd.underlying35 rfl sizeRp V3d.range ?_) | (fail))
    go_ret
    exact ⟨rfl, bU.trans (hB8.mono bU.size)⟩

/-! ### the row, by the frame -/
set_option maxRecDepth 100000 in
theorem lifted (os : Os) (started : os.Started) (H : Type) (enc : TypeId × Value → H) :
    ReturnsInHanded {} Tryd.checked os 5 .any (fun w args => (Rows.fnExactReplyAtSpec.pre enc Tryd.prog Tryd.f5 Rows.fnExactReplyAtRow.domain false w args ∧ laidMetH Tryd.prog Rows.fnExactReplyAtRow.laid w) ∧ sizedMet enc Tryd.prog Tryd.f5 (OpenSpec.ofChange Rows.fnExactReplyAtSpec) false w args)
      (Rows.fnExactReplyAtSpec.post enc Tryd.prog Tryd.f5 false true false false) := by
  refine returnsInHanded_laid_shaped (C := Tryd.checked) (X := fun w _ => laidMetH Tryd.prog Rows.fnExactReplyAtRow.laid w) (fun _ _ _ hh h => h.of_heap hh) own started (by kernel_rfl) Tryd.func5
    (ChangeSpec.witness_shaped (enc := enc) (C := Tryd.checked) (os := os) (X := fun w _ => laidMetH Tryd.prog Rows.fnExactReplyAtRow.laid w) false (World.laidAll Tryd.prog os Rows.fnExactReplyAtRow.laid) #[.string ByteArray.empty, .int .i64 0] 8 (World.laidAll_os _ _ _)
      (World.shaped_of_ZipB (by kernel_rfl) (by kernel_rfl)) (by kernel_rfl) (by kernel_rfl) (by kernel_rfl)
      (by rw [MakeChecks.laidMetH_plain _ _ _ (by kernel_rfl)]; exact laidMet_laidAll _ (by kernel_rfl) (by kernel_rfl))) ?_
  intro W base args ds gs before hval0 hW hcnd _ hL hsh _
  have hval : ∀ (j : Nat) t v, Tryd.f5.params[j]? = some t → args[j]? = some v → Value.okWide Tryd.prog W .any base t v := hval0
  have hW' := hW
  obtain ⟨p, q, hA0, hV, rfl, hfz, hnd⟩ := hW
  have hA : DataW.TrodAll enc Tryd.prog W 0 (fun _ => true) true Tryd.f5.params.toList args.toList ds p := hA0
  rw [Tryd.params5] at hA hval
  obtain ⟨v0, vs0, d0, ds0, p0, q0, hargs, rfl, rfl, h0, r0⟩ := trodAll_cons hA
  obtain ⟨v1, vs1, d1, ds1, p1, q1, rfl, rfl, rfl, h1, r1⟩ := trodAll_cons r0
  obtain ⟨rfl, rfl, rfl⟩ := trodAll_nil r1
  obtain rfl : args = #[v0, v1] := by cases args; simp_all
  obtain ⟨g1, rfl⟩ : ∃ g1, gs = [g1] := by
    cases gs with
    | nil => exact (show False from hV).elim
    | cons g1 r =>
      cases r with
      | nil => exact ⟨g1, rfl⟩
      | cons a b =>
        obtain ⟨_, _, _, _, _, _, _, _, _, _, hs, _⟩ := hV
        exact (show False from hs).elim
  obtain ⟨a0, rfl, rfl, rfl, ws0⟩ := open_string Tryd.underlying9 (hval 0 9 v0 rfl rfl) h0
  obtain ⟨a1, rfl, rfl, rfl, ws1⟩ := open_int Tryd.underlying2 (hval 1 2 v1 rfl rfl) h1
  clear hA0 hval0
  refine (walk a0 a1 W (envOf hsh hL) ws0).mono fun e W' ⟨he, bel⟩ => ?_
  subst he
  exact ⟨_, rfl, _, _, _, [], _, q, hW', trodAll_mk1 (shut_bool Tryd.underlying4 _), (trodAll_cons_mk (shut_string Tryd.underlying9 ws0) (trodAll_cons_mk (shut_int Tryd.underlying2 ws1) trodAll_mk0)), bel.trodVars laidOut (by kernel_rfl) hV, bel.frame _, fun h => by cases h⟩

theorem over : Rows.fnExactReplyAtRow.holds Tryd.pinned (OpenSpec.ofChange Rows.fnExactReplyAtSpec) :=
  OpenClaim.holds_of_wide 5 Tryd.f5 rfl rfl rfl rfl rfl rfl rfl ⟨rfl, rfl, rfl, rfl, rfl⟩ rfl rfl rfl rfl rfl (by kernel_rfl) Tryd.func5 (by kernel_rfl)
    (of_decide_eq_true (by kernel_rfl)) (by unfold Func.isWrapper; first | (rw [if_pos (by decide +kernel)]; kernel_rfl) | (rw [if_neg (by decide +kernel)]; exact ⟨rfl, rfl⟩))
    (fun os started H enc _ => lifted os started H enc)

/-- the card: the row, its listed variables tied to the program's text -/
theorem proved : Rows.FnExactReplyAtCardSaid :=
  Claim7.holds_tied_plain_at .later [] [.data, .data, .data, .data, .sentinel, .sentinel, .data, .pinned] true Rows.fnExactReplyAtCard.stood.harness true over (fun _ h => by cases h) (by kernel_rfl) (fun _ h => by cases h) fnExactReplyAt_row_tie rfl ⟨rfl, rfl⟩ (by kernel_rfl) rfl
    (fun f fn hf hfn => by
      obtain rfl : f = 5 := Option.some.inj ((show Tryd.prog.funcNamed "loop.example/g00401/laws.FnExactReplyAt" = some 5 by kernel_rfl).symm.trans hf) |>.symm
      obtain rfl : fn = Tryd.f5 := (Option.some.inj (Tryd.func5.symm.trans hfn)).symm
      exact ⟨by kernel_rfl, fun j t ht => by
        rw [Tryd.params5] at ht
        have hm : t ∈ [9, 2] := by simpa using Array.mem_of_getElem? ht
        have hall : ([9, 2].all fun u => !Tryd.prog.wantsStandIn u) = true := by kernel_rfl
        exact (show Tryd.prog.wantsStandIn t = false by simpa using List.all_eq_true.1 hall t hm)⟩)
    (by kernel_rfl)
end Go.Proofs.YtefmndjoailemaaDoor.fnExactReplyAt

namespace Go.Proofs.YtefmndjoailemaaDoor
/-- the statement, under its short name -/
theorem fnExactReplyAt_holds : Rows.FnExactReplyAtCardSaid := fnExactReplyAt.proved
#print axioms fnExactReplyAt_holds
end Go.Proofs.YtefmndjoailemaaDoor
