/- Contracts: HeapOk of the program and of the model. -/
import Derived.Test.YtbialeffdpmcjaaCe2
namespace Go.Proofs.Ytbialeffdpmcjaa.ce
open Go.ChangeShapes Go.WideShapes Go.ChangeAt Go.RowKit
set_option linter.unusedVariables false

theorem cv_range {w : World} {b off : Nat} {h : List C} (r : w.rangeAt b off (cvs h)) (i : Nat) (hi : i < h.length) : w.rangeAt b (off + i * 4) (cv h[i]) := fun j v hv => by
  have hj : j < 4 := (List.getElem?_eq_some_iff.1 hv).1
  have := r (i * 4 + j) v (by rw [cvs_get h i hi j hj]; exact hv)
  rw [← Nat.add_assoc] at this
  exact this
theorem cvs_one1 (c : C) : ∀ v ∈ cv c, v.oneCell' = true := by
  intro v hv
  simp only [cv, List.mem_cons, List.not_mem_nil, or_false] at hv
  rcases hv with rfl | rfl | rfl | rfl <;> rfl
theorem right_drop (h : List C) (i : Nat) (hi : i < h.length) (h0 : 1 ≤ i) (hr : ¬ right h h[i]) : ¬ heapOk h := fun ok => hr (ok.2.2 _ (by
  have e : h[i] = (h.drop 1)[i - 1]'(by simp; omega) := by rw [List.getElem_drop]; congr 1; omega
  rw [e]; exact List.getElem_mem _))

theorem ok_upto (H : List C) (hm : H.length ≤ 40) (hp : 1 ≤ H.length) (hf : first H) (hd : ∀ j (hj : j < H.length), 1 ≤ j → right H H[j]) : heapOk H := by
  refine ⟨⟨hp, hm⟩, hf, fun c hc => ?_⟩
  obtain ⟨j, hj, rfl⟩ := List.getElem_of_mem hc
  rw [List.getElem_drop]
  exact hd _ (by simp at hj; omega) (by omega)

end Go.Proofs.Ytbialeffdpmcjaa.ce
