/- Whatever the bytes: of the text that the law draws, cut at whatever place, the program reads of both pieces, the second from where the first one ended, what it reads of all, and as the model does; there are as many commands as codes that say so: the law's call returns true, its argument reads as before; no condition. A tied card: the listed package-level variables (words, tables and errors of Go's library) are tied to the program's text by the given tie; the pruned copy of the project alone is spoken of. -/
import Derived.Test.YtaabmkhckbndgaaGreatDoorMg53
import Derived.Test.YtaabmkhckbndgaaGreatDoorHs1
import Derived.Test.YtaabmkhckbndgaaGreatDoorCards
import Derived.Test.YtaabmkhckbndgaaGreatDoorTie
import Derived.ShutString
import Derived.ChangeOld
import Derived.OpenShut
import Derived.SevenTiedAt
import Derived.OpenVars
import Derived.Lay
import Derived.LaidMore
import Derived.Stop.Joined
namespace Go.Proofs.YtaabmkhckbndgaaGreatDoor.fnCut
open Go.ChangeShapes Go.WideShapes Go.ChangeAt Go.RowKit
open Go.Proofs.YtaabmkhckbndgaaGreatDoor.ce Go.Proofs.YtaabmkhckbndgaaGreatDoor.ro Go.Proofs.YtaabmkhckbndgaaGreatDoor.rg Go.Proofs.YtaabmkhckbndgaaGreatDoor.cm
open Go.ChangeMaps (open_string shut_string)
set_option linter.unusedVariables false

theorem own : ownKnob Tryz.prog.godebug = none := by kernel_rfl
theorem laidOut : laidOutB Tryz.prog = true := by kernel_rfl
/-- what the listed variables give: the verbs' words, the tens, the error, the one number -/
theorem envOf {W : World} (hsh : W.ShapedOpen Tryz.prog) (h : laidMetH Tryz.prog Rows.fnCutRow.laid W) : EnvR W := by
  have h2 : laidMet Tryz.prog Rows.fnCutRow.laid W := by rw [MakeChecks.laidMetH_plain _ _ _ (by kernel_rfl)] at h; exact h
  have m1 : ("internal/strconv.uint64pow10", (Lib.tabData .u64 Lib.pow10Tab : DataW Unit)) ∈ Rows.fnCutRow.laid := by
    rw [show (Lib.tabData .u64 Lib.pow10Tab : DataW Unit) = Rows.laid_internal_strconv_uint64pow10 by kernel_rfl]
    simp [Rows.fnCutRow]
  have m2 : ("loop.example/g00401/impl.verbWords", (DataW.agg (vws.map fun s => .lit (.string s.data.toList)) : DataW Unit)) ∈ Rows.fnCutRow.laid := by
    rw [show (DataW.agg (vws.map fun s => .lit (.string s.data.toList)) : DataW Unit) = Rows.laid_loop_example_g00401_impl_verbWords by kernel_rfl]
    simp [Rows.fnCutRow]
  have m3 : ("strconv.ErrSyntax", (DataW.iface "*errors.errorString" (.ptr (.agg [.lit (.string [105, 110, 118, 97, 108, 105, 100, 32, 115, 121, 110, 116, 97, 120])])) : DataW Unit)) ∈ Rows.fnCutRow.laid := by
    rw [show (DataW.iface "*errors.errorString" (.ptr (.agg [.lit (.string [105, 110, 118, 97, 108, 105, 100, 32, 115, 121, 110, 116, 97, 120])])) : DataW Unit) = Rows.laid_strconv_ErrSyntax by kernel_rfl]
    simp [Rows.fnCutRow]
  refine ⟨?_, iface_get (g := 8) h2 m3 (by kernel_rfl) (by kernel_rfl) ⟨_, Tryz.underlying142⟩, cell_of_shapedOpen_int (g := 2) (t := 3) (zero := #[.int .i64 0]) hsh (of_decide_eq_true (by kernel_rfl)) (by kernel_rfl) rfl (by kernel_rfl) (by kernel_rfl) Tryz.underlying3⟩
  exact ⟨strs_get (g := 0) h2 m2 (by kernel_rfl) (by kernel_rfl) Tryz.underlying83 Tryz.underlying9 (by kernel_rfl) (by kernel_rfl), tab_get (g := 3) h2 m1 (by kernel_rfl) (by kernel_rfl) Tryz.underlying219 Tryz.underlying204 (by kernel_rfl) (by kernel_rfl)⟩

/-! ### the walk -/
set_option maxRecDepth 100000 in
set_option maxHeartbeats 4000000 in
theorem walk (a0 : Option Addr) (len0 cap0 : Nat) (w : World) (en : EnvR w) (w0 : len0 ≤ 4096 → draw.CodeAt w a0 len0) :
    Calls Tryz.prog 4 #[.slice a0 len0 cap0] w fun e w' => e = .returned (.bool true) ∧ Below w.heap.size w w' := by
  by_cases hl : 4096 < len0
  · have hl' : (4096 : Int) < (len0 : Int) := by omega
    go_enter Tryz.func4, Tryz.ntmps4
    go_wp2_with (first | (go_at_call 9; go_in) | (fail))
    go_ret
    exact ⟨rfl, Below.refl _ _⟩
  exact lawCu.walk a0 len0 cap0 w en (by omega) (w0 (by omega))

/-! ### the row, by the frame -/
set_option maxRecDepth 100000 in
theorem lifted (os : Os) (started : os.Started) (H : Type) (enc : TypeId × Value → H) :
    ReturnsInHanded {} Tryz.checked os 4 .any (fun w args => (Rows.fnCutSpec.pre enc Tryz.prog Tryz.f4 Rows.fnCutRow.domain false w args ∧ laidMetH Tryz.prog Rows.fnCutRow.laid w) ∧ sizedMet enc Tryz.prog Tryz.f4 (OpenSpec.ofChange Rows.fnCutSpec) false w args)
      (Rows.fnCutSpec.post enc Tryz.prog Tryz.f4 false true false false) := by
  refine returnsInHanded_laid_shaped (C := Tryz.checked) (X := fun w _ => laidMetH Tryz.prog Rows.fnCutRow.laid w) (fun _ _ _ hh h => h.of_heap hh) own started (by kernel_rfl) Tryz.func4
    (ChangeSpec.witness_shaped (enc := enc) (C := Tryz.checked) (os := os) (X := fun w _ => laidMetH Tryz.prog Rows.fnCutRow.laid w) false (World.laidAll Tryz.prog os Rows.fnCutRow.laid) #[.slice none 0 0] 8 (World.laidAll_os _ _ _)
      (World.shaped_of_ZipB (by kernel_rfl) (by kernel_rfl)) (by kernel_rfl) (by kernel_rfl) (by kernel_rfl)
      (by rw [MakeChecks.laidMetH_plain _ _ _ (by kernel_rfl)]; exact laidMet_laidAll _ (by kernel_rfl) (by kernel_rfl))) ?_
  intro W base args ds gs before hval0 hW hcnd _ hL hsh _
  have hval : ∀ (j : Nat) t v, Tryz.f4.params[j]? = some t → args[j]? = some v → Value.okWide Tryz.prog W .any base t v := hval0
  have hW' := hW
  obtain ⟨p, q, hA0, hV, rfl, hfz, hnd⟩ := hW
  have hA : DataW.TrodAll enc Tryz.prog W 0 (fun _ => true) true Tryz.f4.params.toList args.toList ds p := hA0
  rw [Tryz.params4] at hA hval
  obtain ⟨v0, vs0, d0, ds0, p0, q0, hargs, rfl, rfl, h0, r0⟩ := trodAll_cons hA
  obtain ⟨rfl, rfl, rfl⟩ := trodAll_nil r0
  obtain rfl : args = #[v0] := by cases args; simp_all
  obtain ⟨g1, rfl⟩ : ∃ g1, gs = [g1] := by
    cases gs with
    | nil => exact (show False from hV).elim
    | cons g1 r =>
      cases r with
      | nil => exact ⟨g1, rfl⟩
      | cons a b =>
        obtain ⟨_, _, _, _, _, _, _, _, _, _, hs, _⟩ := hV
        exact (show False from hs).elim
  obtain ⟨a0, len0, cap0, rfl⟩ := okWide_slice Tryz.underlying22 (hval 0 22 v0 rfl rfl)
  have k0 := h0
  have lt0 : ∀ x ∈ p0, x.block < W.heap.size := by obtain ⟨m, hm⟩ := k0; exact DataW.trod_lt m _ _ _ hm
  have w0 : len0 ≤ 4096 → draw.CodeAt W a0 len0 := fun hlen => by
    refine ⟨by omega, ?_⟩
    obtain ⟨fuel, hf⟩ := h0
    rcases open_ints Tryz.underlying22 Tryz.underlying5 (by kernel_rfl) hf with ⟨hcs, _⟩ | ⟨x, l, c, zs, hcs, _, hlc, hm, hz, _, hcell, hwz⟩
    · simp [Value.cells] at hcs
      exact .inl hcs.2.1
    · simp [Value.cells] at hcs
      obtain ⟨rfl, rfl, rfl⟩ := hcs
      by_cases h0 : len0 = 0
      · exact .inl h0
      · have hz' : zs.length = cap0 := by simpa using hz
        obtain ⟨b, off, spot⟩ := x
        have hc := hcell 0 (by omega)
        have hspot : spot = none := by simpa [Addr.add] using World.cell?_spot hc
        subst hspot
        refine .inr ⟨b, off, rfl, World.block_lt_of_cell? W _ hc, fun k hk => ?_⟩
        have hk' : k < zs.length := by omega
        have hck := hcell k hk'
        have hw := hwz (zs.getD k 0) (by rw [List.getD_eq_getElem?_getD, List.getElem?_eq_getElem hk']; exact List.getElem_mem hk')
        have hb := bounds_u8 hw
        refine ⟨zs.getD k 0, ?_, hb.1, by omega⟩
        by_cases h00 : k = 0
        · subst h00; simpa [Addr.add] using hck
        · simpa [Addr.add, h00] using hck
  clear hA0 hval0
  refine (walk a0 len0 cap0 W (envOf hsh hL) w0).mono fun e W' ⟨he, bel⟩ => ?_
  subst he
  exact ⟨_, rfl, _, _, _, [], _, q, hW', trodAll_mk1 (shut_bool Tryz.underlying4 _), (trodAll_cons_mk (Below.trod laidOut (by kernel_rfl) (of_decide_eq_true (by kernel_rfl)) k0 bel lt0) trodAll_mk0), bel.trodVars laidOut (by kernel_rfl) hV, bel.frame _, fun h => by cases h⟩

theorem over : Rows.fnCutRow.holds Tryz.pinned (OpenSpec.ofChange Rows.fnCutSpec) :=
  OpenClaim.holds_of_wide 4 Tryz.f4 rfl rfl rfl rfl rfl rfl rfl ⟨rfl, rfl, rfl, rfl, rfl⟩ rfl rfl rfl rfl rfl (by kernel_rfl) Tryz.func4 (by kernel_rfl)
    (of_decide_eq_true (by kernel_rfl)) (by unfold Func.isWrapper; first | (rw [if_pos (by decide +kernel)]; kernel_rfl) | (rw [if_neg (by decide +kernel)]; exact ⟨rfl, rfl⟩))
    (fun os started H enc _ => lifted os started H enc)

/-- the card: the row, its listed variables tied to the program's text -/
theorem proved : Rows.FnCutCardSaid :=
  Claim7.holds_tied_plain_at .later [] [.data, .data, .data, .data, .sentinel, .sentinel, .data, .pinned] true Rows.fnCutCard.stood.harness true over (fun _ h => by cases h) (by kernel_rfl) (fun _ h => by cases h) fnCut_row_tie rfl ⟨rfl, rfl⟩ (by kernel_rfl) rfl
    (fun f fn hf hfn => by
      obtain rfl : f = 4 := Option.some.inj ((show Tryz.prog.funcNamed "loop.example/g00401/laws.FnCut" = some 4 by kernel_rfl).symm.trans hf) |>.symm
      obtain rfl : fn = Tryz.f4 := (Option.some.inj (Tryz.func4.symm.trans hfn)).symm
      exact ⟨by kernel_rfl, fun j t ht => by
        rw [Tryz.params4] at ht
        have hm : t ∈ [22] := by simpa using Array.mem_of_getElem? ht
        have hall : ([22].all fun u => !Tryz.prog.wantsStandIn u) = true := by kernel_rfl
        exact (show Tryz.prog.wantsStandIn t = false by simpa using List.all_eq_true.1 hall t hm)⟩)
    (by kernel_rfl)
end Go.Proofs.YtaabmkhckbndgaaGreatDoor.fnCut

namespace Go.Proofs.YtaabmkhckbndgaaGreatDoor
/-- the statement, under its short name -/
theorem fnCut_holds : Rows.FnCutCardSaid := fnCut.proved
#print axioms fnCut_holds
end Go.Proofs.YtaabmkhckbndgaaGreatDoor
