/- Mathematics: what Victim tells is modest. -/
import Derived.Test.YtapchjkiiifhdaaCq9
namespace Go.Proofs.Ytapchjkiiifhdaa.rg
open Go.ChangeShapes Go.WideShapes Go.ChangeAt Go.RowKit
open Go.Proofs.Ytapchjkiiifhdaa.ce Go.Proofs.Ytapchjkiiifhdaa.ro
set_option linter.unusedVariables false
theorem vcX_mod (c : Ch) (s : ByteArray) (seed : Int) : Mod (vcX c s seed).1 ∧ (∀ x ∈ (vcX c s seed).1.R.N, x.size ≤ 9223372036854775807) ∧ ∀ x ∈ (vcX c s seed).1.Q, x.size ≤ 9223372036854775807 := by
  cases h : chB c with
  | false =>
    rw [vcX_no1 h]
    exact ⟨⟨Nat.zero_le _, Nat.zero_le _, Nat.zero_le _, ⟨Nat.zero_le _, fun xs hx => by cases hx⟩⟩, fun x hx => (by cases hx), fun x hx => (by cases hx)⟩
  | true =>
    cases h2 : (decide (0 ≤ seed) && decide (seed ≤ 1000000)) with
    | false =>
      rw [vcX_no2 h2]
      exact ⟨⟨Nat.zero_le _, Nat.zero_le _, Nat.zero_le _, ⟨Nat.zero_le _, fun xs hx => by cases hx⟩⟩, fun x hx => (by cases hx), fun x hx => (by cases hx)⟩
    | true =>
      rw [vcX_yes h h2]
      obtain ⟨hsk, hr, hq, hway⟩ := chB_parts h
      have s0 : 0 ≤ seed ∧ seed ≤ 1000000 := by simpa using h2
      have hok := (vicH_says (c := ⟨c.K, c.R, c.Q⟩) ⟨hr, hq, hway⟩ s s0.1 s0.2).1
      have r1 := hok.r.le
      have r2 := hok.r.us
      have q1 := hq.2.2
      refine ⟨⟨?_, ?_, ?_, hsk.four.modest⟩, fun x hx => ?_, fun x hx => ?_⟩
      · show (vicH ⟨c.K, c.R, c.Q⟩ s seed).1.R.N.length ≤ _; omega
      · show (vicH ⟨c.K, c.R, c.Q⟩ s seed).1.R.U.length ≤ _; omega
      · show c.Q.length ≤ _; omega
      · have := nameB_size (hok.r.nm x hx); omega
      · have := nameB_size (hq.1 x hx); omega
end Go.Proofs.Ytapchjkiiifhdaa.rg
