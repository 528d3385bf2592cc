/- Whatever the bytes: the numbers and texts that the law draws are turned and hashed by the program as by the model, a number turned twice is itself, and its bits are the same in the other order: the law's call returns true, its argument reads as before; no condition. -/
import Derived.Test.YtmbmnodfcenjbaaRows
import Derived.WalkKit
import Derived.ProofKit
import Derived.OpenShut
import Derived.Test.YtmbmnodfcenjbaaTurn1
import Derived.Test.YtmbmnodfcenjbaaBits1
import Derived.Test.YtmbmnodfcenjbaaHash1
import Derived.Test.YtmbmnodfcenjbaaDraw1b
import Derived.ShutString
import Derived.ChangeOld
import Derived.Below
namespace Go.Proofs.Ytmbmnodfcenjbaa.fnTurned
open Go.ChangeShapes Go.WideShapes Go.ChangeAt Go.RowKit
open Go.ChangeMaps (open_string shut_string)
set_option linter.unusedVariables false

theorem own : ownKnob Try.prog.godebug = none := by kernel_rfl
theorem laidOut : laidOutB Try.prog = true := by kernel_rfl

/-- WHAT THE WALK IS TOLD OF A SLICE OF INTEGERS THAT CAME IN: it is nil; or it leads to a row of 'cap' cells, the numbers 'zs' (the first 'len' are its elements, the rest its spare room), each fitting its kind. -/
def IsRow (k : IntKind) (w : World) (a : Option Addr) (len cap : Nat) (zs : List Int) : Prop :=
  (a = none ∧ len = 0 ∧ cap = 0 ∧ zs = []) ∨
  ∃ x, a = some x ∧ len ≤ cap ∧ cap ≤ maxLen ∧ zs.length = cap ∧ (∀ i, i < zs.length → w.cell? (x.add i) = some (.int k (zs.getD i 0))) ∧ ∀ n ∈ zs, (Lit.int k n).wf = true

/-! ### the walk -/
theorem code_of (k : Nat) (w : World) (a : Option Addr) (len cap : Nat) (zs : List Int) (h : IsRow .u8 w a len cap zs) (hl : len ≤ 4096) : draw.CodeAt w a len := by
  refine ⟨by omega, ?_⟩
  rcases h with ⟨-, rfl, -, -⟩ | ⟨x, rfl, h1, h2, h3, hcell, hwz⟩
  · exact .inl rfl
  · by_cases h0 : len = 0
    · exact .inl h0
    · obtain ⟨b, off, spot⟩ := x
      have hc := hcell 0 (by omega)
      have hspot : spot = none := by simpa [Addr.add] using World.cell?_spot hc
      subst hspot
      refine .inr ⟨b, off, rfl, World.block_lt_of_cell? w _ hc, fun k hk => ?_⟩
      have hk' : k < zs.length := by omega
      have hck := hcell k hk'
      have hw := hwz (zs.getD k 0) (by rw [List.getD_eq_getElem?_getD, List.getElem?_eq_getElem hk']; exact List.getElem_mem hk')
      have hb := bounds_u8 hw
      refine ⟨zs.getD k 0, ?_, hb.1, by omega⟩
      by_cases h00 : k = 0
      · subst h00; simpa [Addr.add] using hck
      · simpa [Addr.add, h00] using hck
theorem walk (a0 : Option Addr) (len0 cap0 : Nat) (z0 : List Int) (w : World) (w0 : IsRow .u8 w a0 len0 cap0 z0) :
    Calls Try.prog 3 #[.slice a0 len0 cap0] w fun e w' => e = .returned (.bool true) ∧ Below w.heap.size w w' := by
  by_cases hl : 4096 < len0
  · go_enter Try.func3, Try.ntmps3
    go_wp2
    go_ret
    exact ⟨rfl, Below.refl _ _⟩
  have hcode := code_of 0 w a0 len0 cap0 z0 w0 (by omega)
  clear w0
  go_enter Try.func3, Try.ntmps3
  go_wp2_with (first | (go_at_call 6; refine (draw.drawTurned_any _ _ _ _ hcode).mono ?_; rintro e w1 ⟨n, b, rfl, hb0, hb1, hB1⟩) | (go_at_call 5; go_in))
  have hcode1 := draw.code_below hcode hB1
  clear hcode
  go_wp2_with (first | (go_at_call 7; refine (implTurned_any _ _ _).mono ?_; rintro e w1' ⟨rfl, rfl⟩) | (go_at_call 8; refine (draw.drawHash_any _ _ _ _ hcode1).mono ?_; rintro e w2 ⟨t, rfl, ht, hB2⟩))
  have hm : t.size ≤ maxLen := by unfold maxLen; omega
  have hh := hash.hashOf_bd t
  have hB : Below w.heap.size w w2 := hB1.trans (hB2.mono hB1.size)
  clear hB1 hB2 hcode1
  by_cases hy : 1 ≤ b ∧ b ≤ 16 ∧ 0 ≤ n ∧ n < 2 ^ b.toNat
  · have et : turn n b = rv n b.toNat := by unfold turn; rw [if_pos hy]
    obtain ⟨h1, h2, h3, h4⟩ := hy
    have hr := rv_bd n b.toNat
    have hp := pow_le16 b.toNat (by omega)
    have hr16 : rv n b.toNat ≤ 65535 := by omega
    have hr0 : 0 ≤ rv n b.toNat := hr.1
    have hn16 : n ≤ 65535 := by omega
    have HB : Hid (∀ i : Nat, i < b.toNat → rv n b.toNat / 2 ^ (b.toNat - 1 - i) % 2 = n / 2 ^ i % 2) := fun i hi => rv_bit n b.toNat i hi
    have HT : Hid (turn (rv n b.toNat) b = n) := by
      show turn (rv n b.toNat) b = n
      unfold turn
      rw [if_pos ⟨h1, h2, hr.1, hr.2⟩]
      exact rv_rv n b.toNat h3 h4
    clear hr hp h4
    go_wp2_with (first | (go_at_call 9; refine (specTurned_any _ _ _).mono ?_; rintro e w1' ⟨rfl, rfl⟩) | (go_at_call 11; refine (hash.spec_any _ _ hm).mono ?_; rintro e w1' ⟨rfl, rfl⟩) | (go_at_call 10; refine (hash.impl_any _ _ hm).mono ?_; rintro e w1' ⟨rfl, rfl⟩))
    clear hh hm ht et
    go_loop [7] (fun i => ∃ k : Nat, (k : Int) ≤ b ∧ i = .int .i64 k) (fun i => b.toNat - (intOf i).toNat)
    case atStart => exact ⟨0, by omega, rfl⟩
    case round =>
      obtain ⟨k, hk, rfl⟩ := hrel
      by_cases hlt : (k : Int) < b
      · have hd : (bits BinOp.and IntKind.i64 (n / 2 ^ k) 1 != bits BinOp.and IntKind.i64 (rv n b.toNat / 2 ^ (b.toNat - 1 - k)) 1) = false := by
          have d1 := div_bd n k h3
          have d2 := div_bd (rv n b.toNat) (b.toNat - 1 - k) hr0
          rw [and1_i64 _ d1.1 (by omega), and1_i64 _ d2.1 (by omega), HB.out k (by omega)]
          simp
        go_wp2
        go_round
        case rel => exact ⟨k + 1, by omega, by go_num⟩
        case measure => simp [intOf]; omega
      · have ht := HT.out
        go_wp2_with (go_at_call 7; refine (implTurned_any _ _ _).mono ?_; rintro e w1' ⟨rfl, rfl⟩)
        go_ret
        exact ⟨rfl, hB⟩
  · have et : turn n b = -1 := turn_no hy
    have es : (-1 : Int) < 0 := by omega
    go_wp2_with (first | (go_at_call 9; refine (specTurned_any _ _ _).mono ?_; rintro e w1' ⟨rfl, rfl⟩) | (go_at_call 11; refine (hash.spec_any _ _ hm).mono ?_; rintro e w1' ⟨rfl, rfl⟩) | (go_at_call 10; refine (hash.impl_any _ _ hm).mono ?_; rintro e w1' ⟨rfl, rfl⟩))
    all_goals
      go_ret
      refine ⟨?_, hB⟩
      first | rfl | (have e1 := wr_pow b (by omega) (by omega); have hk : 2 ^ b.toNat ≤ n := (by omega); simp [e1, hk])

/-! ### the row, by the frame -/
set_option maxRecDepth 100000 in
theorem lifted (os : Os) (started : os.Started) (H : Type) (enc : TypeId × Value → H) :
    ReturnsInHanded {} Try.checked os 3 .any (Rows.fnTurnedSpec.pre6 enc Try.prog Try.f3 Rows.fnTurnedRow.domain false) (Rows.fnTurnedSpec.post enc Try.prog Try.f3 false true false false) := by
  refine returnsInHanded_of_change (C := Try.checked) own started (by kernel_rfl) Try.func3
    (ChangeSpec.witness6 (enc := enc) (C := Try.checked) false ⟨#[], #[.slice none 0 0], []⟩ 8 (by kernel_rfl) (by kernel_rfl) (by kernel_rfl) (by kernel_rfl)) ?_
  intro W base args ds gs before hval0 hW hcnd _
  have hval : ∀ (j : Nat) t v, Try.f3.params[j]? = some t → args[j]? = some v → Value.okWide Try.prog W .any base t v := hval0
  have hW' := hW
  obtain ⟨p, q, hA0, hV, rfl, hfz, hnd⟩ := hW
  have hA : DataW.TrodAll enc Try.prog W 0 (fun _ => true) true Try.f3.params.toList args.toList ds p := hA0
  rw [Try.params3] at hA hval
  obtain ⟨v0, vs0, d0, ds0, p0, q0, hargs, rfl, rfl, h0, r0⟩ := trodAll_cons hA
  obtain ⟨rfl, rfl, rfl⟩ := trodAll_nil r0
  obtain rfl : args = #[v0] := by cases args; simp_all
  obtain ⟨rfl, rfl⟩ := trodVars_none hV
  obtain ⟨a0, len0, cap0, rfl⟩ := okWide_slice Try.underlying22 (hval 0 22 v0 rfl rfl)
  have k0 := h0
  have lt0 : ∀ x ∈ p0, x.block < W.heap.size := by obtain ⟨m, hm⟩ := k0; exact DataW.trod_lt m _ _ _ hm
  obtain ⟨z0, w0⟩ : ∃ zs, IsRow .u8 W a0 len0 cap0 zs := by
    obtain ⟨fuel, hf⟩ := h0
    rcases open_ints Try.underlying22 Try.underlying5 (by kernel_rfl) hf with ⟨hcs, _⟩ | ⟨x, l, c, zs, hcs, _, hl, hm, hz, _, hcell, hwz⟩
    · simp [Value.cells] at hcs
      obtain ⟨rfl, rfl, rfl⟩ := hcs
      exact ⟨[], .inl ⟨rfl, rfl, rfl, rfl⟩⟩
    · simp [Value.cells] at hcs
      obtain ⟨rfl, rfl, rfl⟩ := hcs
      exact ⟨zs, .inr ⟨_, rfl, hl, hm, by simpa using hz, hcell, hwz⟩⟩
  clear hA0 hval0
  refine (walk a0 len0 cap0 z0 W w0).mono fun e W' ⟨he, bel⟩ => ?_
  subst he
  exact ⟨_, rfl, _, _, _, [], _, [], hW', trodAll_mk1 (shut_bool Try.underlying4 _), (trodAll_cons_mk (Below.trod laidOut (by kernel_rfl) (of_decide_eq_true (by kernel_rfl)) k0 bel lt0) trodAll_mk0), rfl, bel.frame _, fun h => by cases h⟩

theorem over : Rows.fnTurnedRow.holds Try.pinned (OpenSpec.ofChange Rows.fnTurnedSpec) :=
  OpenClaim.holds_of_wide 3 Try.f3 rfl rfl rfl rfl rfl rfl rfl ⟨rfl, rfl, rfl, rfl, rfl⟩ rfl rfl rfl rfl rfl (by kernel_rfl) Try.func3 (by kernel_rfl)
    (of_decide_eq_true (by kernel_rfl)) (by unfold Func.isWrapper; first | (rw [if_pos (by decide +kernel)]; kernel_rfl) | (rw [if_neg (by decide +kernel)]; exact ⟨rfl, rfl⟩))
    (fun os started H enc _ => lifted os started H enc)

/-- the statement -/
theorem proved : Rows.FnTurnedSaid := over
end Go.Proofs.Ytmbmnodfcenjbaa.fnTurned

namespace Go.Proofs.Ytmbmnodfcenjbaa
/-- the statement, under its short name -/
theorem fnTurned_holds : Rows.FnTurnedSaid := fnTurned.proved
#print axioms fnTurned_holds
end Go.Proofs.Ytmbmnodfcenjbaa
