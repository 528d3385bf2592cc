/- Mathematics of FnReplies, no Go in sight. -/
import Derived.Test.YtaabmkhckbndgaaGreatDoorMg28
import Derived.Test.YtaabmkhckbndgaaGreatDoorMg20
import Derived.Test.YtaabmkhckbndgaaGreatDoorDr3
namespace Go.Proofs.YtaabmkhckbndgaaGreatDoor.cm
open Go.ChangeShapes Go.WideShapes Go.ChangeAt Go.RowKit
open Go.Proofs.YtaabmkhckbndgaaGreatDoor.ce Go.Proofs.YtaabmkhckbndgaaGreatDoor.ro Go.Proofs.YtaabmkhckbndgaaGreatDoor.rg
set_option linter.unusedVariables false

theorem atR_cases (t : ByteArray) (q : Int) : atR t q = (Rp.zero, -1) ∨ ∃ (r : Rp) (a b : Nat), q = a ∧ a ≤ b ∧ b ≤ t.size ∧ atR t q = (r, (b : Int)) ∧ POk r ∧ shRX r = t.extract a b := by
  unfold atR
  split
  · next h =>
    cases hr : repL ((bs t).drop q.toNat) with
    | none => exact .inl rfl
    | some r =>
      right
      obtain ⟨ok, u, hu⟩ := repL_is hr
      have hl : (showR r).length ≤ t.size - q.toNat := by
        have := congrArg List.length hu
        rw [List.length_append, List.length_drop, bs_len] at this
        omega
      refine ⟨r, q.toNat, q.toNat + (showR r).length, by omega, by omega, by omega, ?_, ok, ?_⟩
      · show (r, q + ((showR r).length : Int)) = _
        congr 1
        omega
      · unfold shRX
        rw [if_pos (repB_iff.2 ok), ← tx_bs (t.extract _ _), bs_extract, ← hu, Nat.add_sub_cancel_left, List.take_left]
  · exact .inl rfl
theorem shR_no {r : Rp} (h : repB r = false) : shRX r = emp := by unfold shRX; rw [h]; rfl
theorem shR_twice {r : Rp} (h : repB r = true) : 1 ≤ (shRX r).size ∧ atR (shRX r ++ shRX r) 0 = (r, ((shRX r).size : Int)) ∧ atR (shRX r ++ shRX r) ((shRX r).size : Int) = (r, 2 * ((shRX r).size : Int)) := by
  have ok := repB_iff.1 h
  have hb : bs (shRX r) = showR r := by unfold shRX; rw [if_pos h, bs_tx]
  have hl : (showR r).length = (shRX r).size := by rw [← hb, bs_len]
  refine ⟨?_, ?_, ?_⟩
  · rw [← hl]; unfold showR; simp; omega
  · unfold atR
    rw [if_pos ⟨Int.le_refl _, Int.natCast_nonneg _⟩, bs_app, hb]
    show (match repL (showR r ++ showR r) with | some r => (r, (0 : Int) + (showR r).length) | none => (Rp.zero, -1)) = _
    rw [repL_show ok]
    show (r, (0 : Int) + ((showR r).length : Int)) = _
    rw [Int.zero_add, hl]
  · unfold atR
    rw [if_pos ⟨Int.natCast_nonneg _, by rw [ByteArray.size_append]; omega⟩, bs_app, hb, Int.toNat_natCast, ← hl, List.drop_left]
    have := repL_show ok []
    rw [List.append_nil] at this
    rw [this]
    show (r, ((showR r).length : Int) + ((showR r).length : Int)) = _
    congr 1
    omega
end Go.Proofs.YtaabmkhckbndgaaGreatDoor.cm
