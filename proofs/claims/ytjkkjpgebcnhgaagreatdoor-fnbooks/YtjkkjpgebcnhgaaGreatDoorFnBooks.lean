/- Whatever the bytes: of the book, the command and the time that the law draws, the program's DidBook tells the same as the model's; of what is no book or at no time the zero book and RpError, of what is no command the book and RpError; else the book stays right, the reply is right, what was not named stays, what is stored or numbered bears the stamp that was next, and what changes nothing changes nothing: the law's call returns true, its argument reads as before; no condition. A tied card: the listed package-level variables (tables and errors of Go's library) are tied to the program's text by the given tie; the pruned copy of the project alone is spoken of. -/
import Derived.Test.YtjkkjpgebcnhgaaGreatDoorMg29
import Derived.Test.YtjkkjpgebcnhgaaGreatDoorCards
import Derived.Test.YtjkkjpgebcnhgaaGreatDoorTie
import Derived.ShutString
import Derived.ChangeOld
import Derived.OpenShut
import Derived.SevenTiedAt
import Derived.OpenVars
import Derived.Lay
import Derived.LaidMore
import Derived.Stop.Joined
namespace Go.Proofs.YtjkkjpgebcnhgaaGreatDoor.fnBooks
open Go.ChangeShapes Go.WideShapes Go.ChangeAt Go.RowKit
open Go.Proofs.YtjkkjpgebcnhgaaGreatDoor.ce Go.Proofs.YtjkkjpgebcnhgaaGreatDoor.ro Go.Proofs.YtjkkjpgebcnhgaaGreatDoor.rg Go.Proofs.YtjkkjpgebcnhgaaGreatDoor.cm
open Go.ChangeMaps (open_string shut_string)
set_option linter.unusedVariables false

theorem own : ownKnob Tryz.prog.godebug = none := by kernel_rfl
theorem laidOut : laidOutB Tryz.prog = true := by kernel_rfl
/-- what the listed variables give: the tens, the error -/
theorem envOf {W : World} (h : laidMetH Tryz.prog Rows.fnBooksRow.laid W) : EnvD W := by
  have h2 : laidMet Tryz.prog Rows.fnBooksRow.laid W := by rw [MakeChecks.laidMetH_plain _ _ _ (by kernel_rfl)] at h; exact h
  have m1 : ("internal/strconv.uint64pow10", (Lib.tabData .u64 Lib.pow10Tab : DataW Unit)) ∈ Rows.fnBooksRow.laid := by
    rw [show (Lib.tabData .u64 Lib.pow10Tab : DataW Unit) = Rows.laid_internal_strconv_uint64pow10 by kernel_rfl]
    simp [Rows.fnBooksRow]
  have m3 : ("strconv.ErrSyntax", (DataW.iface "*errors.errorString" (.ptr (.agg [.lit (.string [105, 110, 118, 97, 108, 105, 100, 32, 115, 121, 110, 116, 97, 120])])) : DataW Unit)) ∈ Rows.fnBooksRow.laid := by
    rw [show (DataW.iface "*errors.errorString" (.ptr (.agg [.lit (.string [105, 110, 118, 97, 108, 105, 100, 32, 115, 121, 110, 116, 97, 120])])) : DataW Unit) = Rows.laid_strconv_ErrSyntax by kernel_rfl]
    simp [Rows.fnBooksRow]
  exact ⟨tab_get (g := 3) h2 m1 (by kernel_rfl) (by kernel_rfl) Tryz.underlying172 Tryz.underlying154 (by kernel_rfl) (by kernel_rfl), iface_get (g := 1) h2 m3 (by kernel_rfl) (by kernel_rfl) ⟨_, Tryz.underlying146⟩⟩

/-! ### the walk -/
set_option maxRecDepth 100000 in
set_option maxHeartbeats 4000000 in
theorem walk (a0 : Option Addr) (len0 cap0 : Nat) (w : World) (en : EnvD w) (w0 : len0 ≤ 4096 → draw.CodeAt w a0 len0) :
    Calls Tryz.prog 4 #[.slice a0 len0 cap0] w fun e w' => e = .returned (.bool true) ∧ Below w.heap.size w w' := by
  by_cases hl : 4096 < len0
  · have hl' : (4096 : Int) < (len0 : Int) := by omega
    go_enter Tryz.func4, Tryz.ntmps4
    go_wp2_with (first | (go_at_call 16; go_in) | (fail))
    go_ret
    exact ⟨rfl, Below.refl _ _⟩
  exact lawBk.walk a0 len0 cap0 w en (by omega) (w0 (by omega))

/-! ### the row, by the frame -/
set_option maxRecDepth 100000 in
theorem lifted (os : Os) (started : os.Started) (H : Type) (enc : TypeId × Value → H) :
    ReturnsInHanded {} Tryz.checked os 4 .any (fun w args => (Rows.fnBooksSpec.pre enc Tryz.prog Tryz.f4 Rows.fnBooksRow.domain false w args ∧ laidMetH Tryz.prog Rows.fnBooksRow.laid w) ∧ sizedMet enc Tryz.prog Tryz.f4 (OpenSpec.ofChange Rows.fnBooksSpec) false w args)
      (Rows.fnBooksSpec.post enc Tryz.prog Tryz.f4 false true false false) := by
  refine returnsInHanded_of_change_and (C := Tryz.checked) (X := fun w _ => laidMetH Tryz.prog Rows.fnBooksRow.laid w) (fun _ _ _ hh h => h.of_heap hh) own started (by kernel_rfl) Tryz.func4
    (ChangeSpec.witness_shaped (enc := enc) (C := Tryz.checked) (os := os) (X := fun w _ => laidMetH Tryz.prog Rows.fnBooksRow.laid w) false (World.laidAll Tryz.prog os Rows.fnBooksRow.laid) #[.slice none 0 0] 8 (World.laidAll_os _ _ _)
      (World.shaped_of_ZipB (by kernel_rfl) (by kernel_rfl)) (by kernel_rfl) (by kernel_rfl) (by kernel_rfl)
      (by rw [MakeChecks.laidMetH_plain _ _ _ (by kernel_rfl)]; exact laidMet_laidAll _ (by kernel_rfl) (by kernel_rfl))) ?_
  intro W base args ds gs before hval0 hW hcnd _ hL _
  have hval : ∀ (j : Nat) t v, Tryz.f4.params[j]? = some t → args[j]? = some v → Value.okWide Tryz.prog W .any base t v := hval0
  have hW' := hW
  obtain ⟨p, q, hA0, hV, rfl, hfz, hnd⟩ := hW
  have hA : DataW.TrodAll enc Tryz.prog W 0 (fun _ => true) true Tryz.f4.params.toList args.toList ds p := hA0
  rw [Tryz.params4] at hA hval
  obtain ⟨v0, vs0, d0, ds0, p0, q0, hargs, rfl, rfl, h0, r0⟩ := trodAll_cons hA
  obtain ⟨rfl, rfl, rfl⟩ := trodAll_nil r0
  obtain rfl : args = #[v0] := by cases args; simp_all
  obtain ⟨rfl, rfl⟩ := trodVars_none hV
  obtain ⟨a0, len0, cap0, rfl⟩ := okWide_slice Tryz.underlying43 (hval 0 43 v0 rfl rfl)
  have k0 := h0
  have lt0 : ∀ x ∈ p0, x.block < W.heap.size := by obtain ⟨m, hm⟩ := k0; exact DataW.trod_lt m _ _ _ hm
  have w0 : len0 ≤ 4096 → draw.CodeAt W a0 len0 := fun hlen => by
    refine ⟨by omega, ?_⟩
    obtain ⟨fuel, hf⟩ := h0
    rcases open_ints Tryz.underlying43 Tryz.underlying5 (by kernel_rfl) hf with ⟨hcs, _⟩ | ⟨x, l, c, zs, hcs, _, hlc, hm, hz, _, hcell, hwz⟩
    · simp [Value.cells] at hcs
      exact .inl hcs.2.1
    · simp [Value.cells] at hcs
      obtain ⟨rfl, rfl, rfl⟩ := hcs
      by_cases h0 : len0 = 0
      · exact .inl h0
      · have hz' : zs.length = cap0 := by simpa using hz
        obtain ⟨b, off, spot⟩ := x
        have hc := hcell 0 (by omega)
        have hspot : spot = none := by simpa [Addr.add] using World.cell?_spot hc
        subst hspot
        refine .inr ⟨b, off, rfl, World.block_lt_of_cell? W _ hc, fun k hk => ?_⟩
        have hk' : k < zs.length := by omega
        have hck := hcell k hk'
        have hw := hwz (zs.getD k 0) (by rw [List.getD_eq_getElem?_getD, List.getElem?_eq_getElem hk']; exact List.getElem_mem hk')
        have hb := bounds_u8 hw
        refine ⟨zs.getD k 0, ?_, hb.1, by omega⟩
        by_cases h00 : k = 0
        · subst h00; simpa [Addr.add] using hck
        · simpa [Addr.add, h00] using hck
  clear hA0 hval0
  refine (walk a0 len0 cap0 W (envOf hL) w0).mono fun e W' ⟨he, bel⟩ => ?_
  subst he
  exact ⟨_, rfl, _, _, _, [], _, [], hW', trodAll_mk1 (shut_bool Tryz.underlying4 _), (trodAll_cons_mk (Below.trod laidOut (by kernel_rfl) (of_decide_eq_true (by kernel_rfl)) k0 bel lt0) trodAll_mk0), rfl, bel.frame _, fun h => by cases h⟩

theorem over : Rows.fnBooksRow.holds Tryz.pinned (OpenSpec.ofChange Rows.fnBooksSpec) :=
  OpenClaim.holds_of_wide 4 Tryz.f4 rfl rfl rfl rfl rfl rfl rfl ⟨rfl, rfl, rfl, rfl, rfl⟩ rfl rfl rfl rfl rfl (by kernel_rfl) Tryz.func4 (by kernel_rfl)
    (of_decide_eq_true (by kernel_rfl)) (by unfold Func.isWrapper; first | (rw [if_pos (by decide +kernel)]; kernel_rfl) | (rw [if_neg (by decide +kernel)]; exact ⟨rfl, rfl⟩))
    (fun os started H enc _ => lifted os started H enc)

/-- the card: the row, its listed variables tied to the program's text -/
theorem proved : Rows.FnBooksCardSaid :=
  Claim7.holds_tied_plain_at .later [] [.data, .data, .data, .sentinel, .sentinel] true Rows.fnBooksCard.stood.harness true over (fun _ h => by cases h) (by kernel_rfl) (fun _ h => by cases h) fnBooks_row_tie rfl ⟨rfl, rfl⟩ (by kernel_rfl) rfl
    (fun f fn hf hfn => by
      obtain rfl : f = 4 := Option.some.inj ((show Tryz.prog.funcNamed "loop.example/g00401/laws.FnBooks" = some 4 by kernel_rfl).symm.trans hf) |>.symm
      obtain rfl : fn = Tryz.f4 := (Option.some.inj (Tryz.func4.symm.trans hfn)).symm
      exact ⟨by kernel_rfl, fun j t ht => by
        rw [Tryz.params4] at ht
        have hm : t ∈ [43] := by simpa using Array.mem_of_getElem? ht
        have hall : ([43].all fun u => !Tryz.prog.wantsStandIn u) = true := by kernel_rfl
        exact (show Tryz.prog.wantsStandIn t = false by simpa using List.all_eq_true.1 hall t hm)⟩)
    (by kernel_rfl)
end Go.Proofs.YtjkkjpgebcnhgaaGreatDoor.fnBooks

namespace Go.Proofs.YtjkkjpgebcnhgaaGreatDoor
/-- the statement, under its short name -/
theorem fnBooks_holds : Rows.FnBooksCardSaid := fnBooks.proved
#print axioms fnBooks_holds
end Go.Proofs.YtjkkjpgebcnhgaaGreatDoor
