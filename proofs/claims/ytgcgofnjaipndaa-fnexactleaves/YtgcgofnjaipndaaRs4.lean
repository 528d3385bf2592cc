/- How long the answers' rings are. -/
import Derived.Test.YtgcgofnjaipndaaRs3
import Derived.Test.YtgcgofnjaipndaaRp6
namespace Go.Proofs.Ytgcgofnjaipndaa.rg
open Go.RowKit
set_option linter.unusedVariables false

def Small (r : Rg) : Prop := r.N.length ≤ 1048576 ∧ r.U.length ≤ 1048576
theorem zero_len : Small Rg.zero := ⟨by simp [Rg.zero], by simp [Rg.zero]⟩
theorem rok_len {r : Rg} (h : ROk r) : Small r := ⟨by have := h.le; omega, by have := h.le; have := h.us; omega⟩
theorem jnR_len (r : Rg) (s : ByteArray) : Small (jnR r s) := by
  unfold jnR
  split
  · next h =>
    have k := ringB_iff.1 h
    have h1 := k.le
    have h2 := k.us
    split
    · exact ⟨by unfold joined; simp; omega, by unfold joined; simp; omega⟩
    · exact rok_len k
  · exact zero_len
theorem usR_len (r : Rg) (s : ByteArray) : Small (usR r s) := by
  unfold usR
  split
  · next h =>
    have := ringB_iff.1 h
    unfold used
    split
    · exact ⟨(rok_len this).1, by rw [List.length_set]; exact (rok_len this).2⟩
    · exact rok_len this
  · exact zero_len
theorem lvR_len (r : Rg) (s : ByteArray) : Small (lvR r s) := by
  unfold lvR
  split
  · next h =>
    have := rok_len (ringB_iff.1 h)
    split
    · have hl := left_len r (posS s r.N).toNat
      exact ⟨Nat.le_trans hl.1 this.1, Nat.le_trans hl.2 this.2⟩
    · exact this
  · exact zero_len
theorem tuR_len (r : Rg) : Small (tuR r) := by
  unfold tuR
  split
  · next h =>
    have := rok_len (ringB_iff.1 h)
    split
    · exact this
    · exact ⟨this.1, by unfold turned; rw [turn_len]; exact this.2⟩
  · exact zero_len
end Go.Proofs.Ytgcgofnjaipndaa.rg
