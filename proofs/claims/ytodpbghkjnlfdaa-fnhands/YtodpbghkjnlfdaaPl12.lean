/- Contracts: the program's Moved and Alone answer as the model's. -/
import Derived.Test.YtodpbghkjnlfdaaPl11
import Derived.Test.YtodpbghkjnlfdaaMg21
namespace Go.Proofs.Ytodpbghkjnlfdaa.ce
open Go.ChangeShapes Go.WideShapes Go.ChangeAt Go.RowKit
set_option linter.unusedVariables false

theorem runC_alone : ∀ (n : Nat) (H : List C) (d : Hd), runC n H d = alone n H d
  | 0, _, _ => rfl
  | n + 1, H, d => by
    by_cases h5 : d.step = 5
    · rw [runC_done (n + 1) H d h5, alone_done (n + 1) H d h5]
    · rw [alone_go n H d h5]; exact runC_alone n _ _
theorem playC_moved (H : List C) (d : Hd) : playC 1 H d = movedP H d := by
  unfold playC movedP
  split
  · rfl
  · rfl
theorem playC_alone (H : List C) (d : Hd) : playC 400 H d = aloneP H d := by
  unfold playC aloneP
  rw [runC_alone]
  rfl
theorem implMoved_any (H : List C) (d : Hd) (v : Value) (hi : Nat) (w : World) (hh : hi ≤ w.heap.size) (r : Rd w hi v H) :
    Calls Try.prog 19 #[v, .agg (hv d).toArray] w fun e w' => ∃ v', e = .returned (.tuple #[v', .agg (hv (movedP H d).2).toArray]) ∧ Own w' w.heap.size w'.heap.size v' (movedP H d).1 ∧ Below w.heap.size w w' := by
  rw [← playC_moved]; exact implMoved_any' H d v hi w hh r
theorem implAlone_any (H : List C) (d : Hd) (v : Value) (hi : Nat) (w : World) (hh : hi ≤ w.heap.size) (r : Rd w hi v H) :
    Calls Try.prog 23 #[v, .agg (hv d).toArray] w fun e w' => ∃ v', e = .returned (.tuple #[v', .agg (hv (aloneP H d).2).toArray]) ∧ Own w' w.heap.size w'.heap.size v' (aloneP H d).1 ∧ Below w.heap.size w w' := by
  rw [← playC_alone]; exact implAlone_any' H d v hi w hh r
end Go.Proofs.Ytodpbghkjnlfdaa.ce
