/- Whatever the bytes: for what the law draws, the keys and parents of doors and things are the model's; doors have even keys, things odd ones, a door stands ahead of what it holds, and its parent ahead of it: the law's call returns true, its argument reads as before; no condition. -/
import Derived.Test.YtmbmnodfcenjbaaRows
import Derived.WalkKit
import Derived.ProofKit
import Derived.OpenShut
import Derived.Test.YtmbmnodfcenjbaaTurn1
import Derived.Test.YtmbmnodfcenjbaaParent1b
import Derived.Test.YtmbmnodfcenjbaaKeys1
import Derived.Test.YtmbmnodfcenjbaaDraw1b
import Derived.Test.YtmbmnodfcenjbaaDrawPar
import Derived.ShutString
import Derived.ChangeOld
import Derived.Below
namespace Go.Proofs.Ytmbmnodfcenjbaa.fnKeys
open Go.ChangeShapes Go.WideShapes Go.ChangeAt Go.RowKit
open Go.ChangeMaps (open_string shut_string)
set_option linter.unusedVariables false

theorem own : ownKnob Try.prog.godebug = none := by kernel_rfl
theorem laidOut : laidOutB Try.prog = true := by kernel_rfl

/-- WHAT THE WALK IS TOLD OF A SLICE OF INTEGERS THAT CAME IN: it is nil; or it leads to a row of 'cap' cells, the numbers 'zs' (the first 'len' are its elements, the rest its spare room), each fitting its kind. -/
def IsRow (k : IntKind) (w : World) (a : Option Addr) (len cap : Nat) (zs : List Int) : Prop :=
  (a = none ∧ len = 0 ∧ cap = 0 ∧ zs = []) ∨
  ∃ x, a = some x ∧ len ≤ cap ∧ cap ≤ maxLen ∧ zs.length = cap ∧ (∀ i, i < zs.length → w.cell? (x.add i) = some (.int k (zs.getD i 0))) ∧ ∀ n ∈ zs, (Lit.int k n).wf = true

/-! ### the walk -/
theorem code_of (k : Nat) (w : World) (a : Option Addr) (len cap : Nat) (zs : List Int) (h : IsRow .u8 w a len cap zs) (hl : len ≤ 4096) : draw.CodeAt w a len := by
  refine ⟨by omega, ?_⟩
  rcases h with ⟨-, rfl, -, -⟩ | ⟨x, rfl, h1, h2, h3, hcell, hwz⟩
  · exact .inl rfl
  · by_cases h0 : len = 0
    · exact .inl h0
    · obtain ⟨b, off, spot⟩ := x
      have hc := hcell 0 (by omega)
      have hspot : spot = none := by simpa [Addr.add] using World.cell?_spot hc
      subst hspot
      refine .inr ⟨b, off, rfl, World.block_lt_of_cell? w _ hc, fun k hk => ?_⟩
      have hk' : k < zs.length := by omega
      have hck := hcell k hk'
      have hw := hwz (zs.getD k 0) (by rw [List.getD_eq_getElem?_getD, List.getElem?_eq_getElem hk']; exact List.getElem_mem hk')
      have hb := bounds_u8 hw
      refine ⟨zs.getD k 0, ?_, hb.1, by omega⟩
      by_cases h00 : k = 0
      · subst h00; simpa [Addr.add] using hck
      · simpa [Addr.add, h00] using hck
theorem walk (a0 : Option Addr) (len0 cap0 : Nat) (z0 : List Int) (w : World) (w0 : IsRow .u8 w a0 len0 cap0 z0) :
    Calls Try.prog 4 #[.slice a0 len0 cap0] w fun e w' => e = .returned (.bool true) ∧ Below w.heap.size w w' := by
  by_cases hl : 4096 < len0
  · go_enter Try.func4, Try.ntmps4
    go_wp2
    go_ret
    exact ⟨rfl, Below.refl _ _⟩
  have hcode := code_of 0 w a0 len0 cap0 z0 w0 (by omega)
  clear w0
  go_enter Try.func4, Try.ntmps4
  go_wp2_with (first | (go_at_call 12; refine (draw.drawItemKey_any _ _ _ _ hcode).mono ?_; rintro e w1 ⟨h, rfl, hh0, hh1, hB1⟩) | (go_at_call 5; go_in))
  have hcode1 := draw.code_below hcode hB1
  clear hcode
  go_wp2_with (go_at_call 13; refine (draw.drawParentOf_any _ _ _ _ hcode1).mono ?_; rintro e w2 ⟨b, rfl, hb0, hb1, hB2⟩)
  have hB : Below w.heap.size w w2 := hB1.trans (hB2.mono hB1.size)
  clear hB1 hB2 hcode1
  by_cases hz : 0 ≤ h ∧ h ≤ 32767
  · obtain ⟨h0, h1⟩ := hz
    have hkb : 1 ≤ keyB h 1 ∧ keyB h 1 ≤ 65535 := by have := rv15 h; rw [keyB_yes h 1 h0 h1]; omega
    have hodd : (keyB h 1 % 2 == 1) = true := by
      have : (2 * rv h 15 + 1) % 2 = 1 := by omega
      rw [keyB_yes h 1 h0 h1, this]; rfl
    have hk0 : 0 ≤ keyB h 1 := by omega
    rcases parent_facts b with hpn | ⟨hq0, hq1, hqk, hm0, hme⟩
    all_goals
      go_wp2_with (first | (go_at_call 14; refine (implItemKey_any _ _).mono ?_; rintro e w1' ⟨rfl, rfl⟩) | (go_at_call 15; refine (implMarkKey_any _ _).mono ?_; rintro e w1' ⟨rfl, rfl⟩) | (go_at_call 16; refine (implParentOf_any _ _).mono ?_; rintro e w1' ⟨rfl, rfl⟩) | (go_at_call 17; refine (specItemKey_any _ _).mono ?_; rintro e w1' ⟨rfl, rfl⟩) | (go_at_call 18; refine (specMarkKey_any _ _).mono ?_; rintro e w1' ⟨rfl, rfl⟩) | (go_at_call 19; refine (specParentOf_any _ _).mono ?_; rintro e w1' ⟨rfl, rfl⟩))
      go_loop [8] (fun v => ∃ (s : Nat) (z : Int), s ≤ 7 ∧ Hid (z = 2 ^ s) ∧ 1 ≤ z ∧ z ≤ 128 ∧ v = .int .i64 z) (fun v => (128 - intOf v).toNat)
      case atStart => exact ⟨0, 1, by omega, rfl, by omega, by omega, rfl⟩
      case round =>
        obtain ⟨s, z, hs, hz, hz1, hz2, rfl⟩ := hrel
        by_cases hlt : z ≤ 64
        · have hs6 : s ≤ 6 := by
            by_cases e : s = 7
            · subst e; have e7 : z = 128 := hz.out; omega
            · omega
          obtain ⟨d1, d2, d3, d4, d5, d6⟩ := key_door h s z hz.out (by omega) h0 h1
          go_wp2_with (go_at_call 15; refine (implMarkKey_any _ _).mono ?_; rintro e w1' ⟨rfl, rfl⟩)
          go_round
          case rel => exact ⟨s + 1, 2 * z, by omega, (by rw [hz.out, p2] : 2 * z = 2 ^ (s + 1)), by omega, by omega, by go_num⟩
          case measure => simp [intOf]; omega
        · go_wp2
          go_ret
          exact ⟨rfl, hB⟩
  · have hkn : keyB h 1 = -1 := keyB_no h 1 hz
    have hkm : keyB h 0 = -1 := keyB_no h 0 hz
    have htt : (decide (h < 0) || decide (32767 < h)) = true := by simp; omega
    rcases parent_facts b with hpn | ⟨hq0, hq1, hqk, hm0, hme⟩
    all_goals
      go_wp2_with (first | (go_at_call 14; refine (implItemKey_any _ _).mono ?_; rintro e w1' ⟨rfl, rfl⟩) | (go_at_call 15; refine (implMarkKey_any _ _).mono ?_; rintro e w1' ⟨rfl, rfl⟩) | (go_at_call 16; refine (implParentOf_any _ _).mono ?_; rintro e w1' ⟨rfl, rfl⟩) | (go_at_call 17; refine (specItemKey_any _ _).mono ?_; rintro e w1' ⟨rfl, rfl⟩) | (go_at_call 18; refine (specMarkKey_any _ _).mono ?_; rintro e w1' ⟨rfl, rfl⟩) | (go_at_call 19; refine (specParentOf_any _ _).mono ?_; rintro e w1' ⟨rfl, rfl⟩))
      all_goals
        go_ret
        refine ⟨?_, hB⟩
        first | rfl | exact congrArg (fun x => Ending.returned (.bool x)) htt

/-! ### the row, by the frame -/
set_option maxRecDepth 100000 in
theorem lifted (os : Os) (started : os.Started) (H : Type) (enc : TypeId × Value → H) :
    ReturnsInHanded {} Try.checked os 4 .any (Rows.fnKeysSpec.pre6 enc Try.prog Try.f4 Rows.fnKeysRow.domain false) (Rows.fnKeysSpec.post enc Try.prog Try.f4 false true false false) := by
  refine returnsInHanded_of_change (C := Try.checked) own started (by kernel_rfl) Try.func4
    (ChangeSpec.witness6 (enc := enc) (C := Try.checked) false ⟨#[], #[.slice none 0 0], []⟩ 8 (by kernel_rfl) (by kernel_rfl) (by kernel_rfl) (by kernel_rfl)) ?_
  intro W base args ds gs before hval0 hW hcnd _
  have hval : ∀ (j : Nat) t v, Try.f4.params[j]? = some t → args[j]? = some v → Value.okWide Try.prog W .any base t v := hval0
  have hW' := hW
  obtain ⟨p, q, hA0, hV, rfl, hfz, hnd⟩ := hW
  have hA : DataW.TrodAll enc Try.prog W 0 (fun _ => true) true Try.f4.params.toList args.toList ds p := hA0
  rw [Try.params4] at hA hval
  obtain ⟨v0, vs0, d0, ds0, p0, q0, hargs, rfl, rfl, h0, r0⟩ := trodAll_cons hA
  obtain ⟨rfl, rfl, rfl⟩ := trodAll_nil r0
  obtain rfl : args = #[v0] := by cases args; simp_all
  obtain ⟨rfl, rfl⟩ := trodVars_none hV
  obtain ⟨a0, len0, cap0, rfl⟩ := okWide_slice Try.underlying22 (hval 0 22 v0 rfl rfl)
  have k0 := h0
  have lt0 : ∀ x ∈ p0, x.block < W.heap.size := by obtain ⟨m, hm⟩ := k0; exact DataW.trod_lt m _ _ _ hm
  obtain ⟨z0, w0⟩ : ∃ zs, IsRow .u8 W a0 len0 cap0 zs := by
    obtain ⟨fuel, hf⟩ := h0
    rcases open_ints Try.underlying22 Try.underlying5 (by kernel_rfl) hf with ⟨hcs, _⟩ | ⟨x, l, c, zs, hcs, _, hl, hm, hz, _, hcell, hwz⟩
    · simp [Value.cells] at hcs
      obtain ⟨rfl, rfl, rfl⟩ := hcs
      exact ⟨[], .inl ⟨rfl, rfl, rfl, rfl⟩⟩
    · simp [Value.cells] at hcs
      obtain ⟨rfl, rfl, rfl⟩ := hcs
      exact ⟨zs, .inr ⟨_, rfl, hl, hm, by simpa using hz, hcell, hwz⟩⟩
  clear hA0 hval0
  refine (walk a0 len0 cap0 z0 W w0).mono fun e W' ⟨he, bel⟩ => ?_
  subst he
  exact ⟨_, rfl, _, _, _, [], _, [], hW', trodAll_mk1 (shut_bool Try.underlying4 _), (trodAll_cons_mk (Below.trod laidOut (by kernel_rfl) (of_decide_eq_true (by kernel_rfl)) k0 bel lt0) trodAll_mk0), rfl, bel.frame _, fun h => by cases h⟩

theorem over : Rows.fnKeysRow.holds Try.pinned (OpenSpec.ofChange Rows.fnKeysSpec) :=
  OpenClaim.holds_of_wide 4 Try.f4 rfl rfl rfl rfl rfl rfl rfl ⟨rfl, rfl, rfl, rfl, rfl⟩ rfl rfl rfl rfl rfl (by kernel_rfl) Try.func4 (by kernel_rfl)
    (of_decide_eq_true (by kernel_rfl)) (by unfold Func.isWrapper; first | (rw [if_pos (by decide +kernel)]; kernel_rfl) | (rw [if_neg (by decide +kernel)]; exact ⟨rfl, rfl⟩))
    (fun os started H enc _ => lifted os started H enc)

/-- the statement -/
theorem proved : Rows.FnKeysSaid := over
end Go.Proofs.Ytmbmnodfcenjbaa.fnKeys

namespace Go.Proofs.Ytmbmnodfcenjbaa
/-- the statement, under its short name -/
theorem fnKeys_holds : Rows.FnKeysSaid := fnKeys.proved
#print axioms fnKeys_holds
end Go.Proofs.Ytmbmnodfcenjbaa
