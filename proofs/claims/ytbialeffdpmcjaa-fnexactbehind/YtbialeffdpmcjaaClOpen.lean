/- Cells that came in as an argument, read as a list. -/
import Derived.Test.YtbialeffdpmcjaaCl1
import Derived.Deep.Slices
import Derived.Lib.SmallJoins
import Derived.ShutString
import Derived.ChangeOld
namespace Go.Proofs.Ytbialeffdpmcjaa.ce
open Go.ChangeShapes Go.WideShapes Go.ChangeAt Go.RowKit
open Go.Deep Go.Joins
set_option linter.unusedVariables false

theorem cellsI : Try.prog.cellsOf 2 = 1 := by kernel_rfl
theorem cellsB : Try.prog.cellsOf 4 = 1 := by kernel_rfl
theorem add_none {a : Addr} (h : a.spot = none) (j : Nat) : a.add j = ⟨a.block, a.off + j, none⟩ := by
  obtain ⟨b, o, s⟩ := a
  simp at h
  subst h
  exact Addr.add_mid b o j
theorem freshH_le (H : List C) (key value next : Int) : (freshH H key value next).length ≤ 1048576 := by
  unfold freshH
  split
  · rename_i h
    have := h.1.2
    split
    · simp; omega
    · omega
  · simp
theorem swappedH_le (H : List C) (p next to : Int) : (swappedH H p next to).length ≤ 1048576 := by
  unfold swappedH
  split
  · rename_i h
    have := h.1.2
    rw [swap1_len]; omega
  · simp
theorem struckH_le (H : List C) (p next : Int) : (struckH H p next).length ≤ 1048576 := by
  unfold struckH
  split
  · rename_i h
    have := h.1.2
    rw [strike1_len]; omega
  · simp

end Go.Proofs.Ytbialeffdpmcjaa.ce
