/- Lengths of chapter 4's answers. -/
import Derived.Test.YtedaioljkpfiiaaSp4
import Derived.Test.YtedaioljkpfiiaaSp5
namespace Go.Proofs.Ytedaioljkpfiiaa.ce
set_option linter.unusedVariables false
theorem chainL_le (H : List C) : (chainL H).length ≤ 1048576 := by
  unfold chainL
  split
  · rename_i h
    have := chain_len (up_ok h)
    omega
  · simp
theorem livingL_le (H : List C) : (livingL H).length ≤ 1048576 := by
  unfold livingL
  split
  · rename_i h
    have h1 := chain_len (up_ok h)
    have h2 := alive_len H ((chain H).drop 1)
    have h3 : living H = alive H ((chain H).drop 1) := rfl
    rw [h3]
    rw [List.length_drop] at h2
    omega
  · simp
end Go.Proofs.Ytedaioljkpfiiaa.ce
