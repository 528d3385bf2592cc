/- The model's DueBy: mathematics, and what is built there. -/
import Derived.Test.YtmnjmghlkiljhaaMg10
import Derived.Test.YtmnjmghlkiljhaaMg03
import Derived.Test.YtmnjmghlkiljhaaMg08
import Derived.Lib.SmallJoins
import Derived.Deep.Slices
import Derived.Deep.RegionHeld3
import Derived.BigQuiet
import Derived.Deep.DeepCutAuto
namespace Go.Proofs.Ytmnjmghlkiljhaa.rg
open Go.ChangeShapes Go.WideShapes Go.ChangeAt Go.RowKit
open Go.Deep Go.Joins
open Go.Proofs.Ytmnjmghlkiljhaa.ce Go.Proofs.Ytmnjmghlkiljhaa.ro
set_option linter.unusedVariables false
set_option linter.unusedSimpArgs false

theorem ins_at (x : It) : ∀ (D : List It) (k : Nat), k ≤ D.length → (∀ j (h : j < D.length), j < k → D[j].U ≤ x.U) → (∀ h : k < D.length, ¬ D[k].U ≤ x.U) → insU D x = D.take k ++ [x] ++ D.drop k
  | [], k, hk, _, _ => by have : k = 0 := by simpa using hk
                          subst this; rfl
  | y :: D, 0, hk, _, h2 => by
    have := h2 (by simp)
    rw [ins_cons, if_neg (by simpa using this)]
    rfl
  | y :: D, k + 1, hk, h1, h2 => by
    have h0 := h1 0 (by simp) (by omega)
    rw [ins_cons, if_pos (by simpa using h0), ins_at x D k (by simpa using hk) (fun j h hj => h1 (j + 1) (by simp; exact h) (by omega)) (fun h => h2 (by simp; exact h))]
    rfl
theorem dueF_take {b : List It} {i : Nat} (hi : i < b.length) (now : Int) : dueF ((b.take (i + 1)).filter fun z => overB z now) = if overB b[i] now = true then insU (dueF ((b.take i).filter fun z => overB z now)) b[i] else dueF ((b.take i).filter fun z => overB z now) := by
  rw [← List.take_append_getElem hi, List.filter_append]
  by_cases h : overB b[i] now = true
  · rw [if_pos h]
    have e : ([b[i]].filter fun z => overB z now) = [b[i]] := by simp [h]
    rw [e, dueF_snoc]
  · rw [if_neg h]
    have e : ([b[i]].filter fun z => overB z now) = [] := by simp [h]
    rw [e, List.append_nil]
section
variable {ops : Array Oper} {rest : List Oper} {o : Oper} {a : Act} {w : World} {Q : Exit → Act → World → Prop} {K : Act → World → Prop} {X : Prop}
theorem bAi (W : World) (o : Obj) : Below W.heap.size W (W.alloc o) := (Below.refl _ _).alloc (Nat.le_refl _) _
theorem run_build0i {P : Program} (w : World) (t e : TypeId) (i : TypeInfo) (ht : P.underlying t = some (.slice e)) (hi : P.info? e = some i) : (Instr.buildSlice t 0 #[]).run P w = .ok (.slice (some ⟨w.heap.size, 0, none⟩) 0 0) (w.alloc (.cells #[] e)) := by
  simp [Instr.buildSlice, run_underlying ht, sizeOf, typeInfo, hi, Instr.fill, Result.andThen]
  rw [show Array.map (fun x => (default : Value)) (Array.range 0) = #[] from Array.eq_empty_of_size_eq_zero (by simp)]
  rfl
theorem step_build0i (hgd : o.guard = none) (t e : TypeId) (i : TypeInfo) (ho : o.op = .buildSlice t 0 #[]) (ht : Try.prog.underlying t = some (.slice e)) (hi : Try.prog.info? e = some i)
    (h : ∀ (b : Nat) (w' : World), Below w.heap.size w w' → K (a.put o.dst (.slice (some ⟨b, 0, none⟩) 0 0)) w') : if Region.wanted o (yielded ops a.tmps) = true then Oper.wp Try.prog o a w K Q else X := by
  refine step_val hgd (v := .slice (some ⟨w.heap.size, 0, none⟩) 0 0) (w' := w.alloc (.cells #[] e)) ?_ (h _ _ (bAi _ _))
  simp [execOp, ho, run_build0i w t e i ht hi, Result.andThen]
theorem wpList_build0i (hgd : o.guard = none) (t e : TypeId) (i : TypeInfo) (ho : o.op = .buildSlice t 0 #[]) (ht : Try.prog.underlying t = some (.slice e)) (hi : Try.prog.info? e = some i)
    (h : ∀ (b : Nat) (w' : World), Below w.heap.size w w' → wpList Try.prog ops Q rest (a.put o.dst (.slice (some ⟨b, 0, none⟩) 0 0)) w') : wpList Try.prog ops Q (o :: rest) a w := by
  refine wpList_val hgd (v := .slice (some ⟨w.heap.size, 0, none⟩) 0 0) (w' := w.alloc (.cells #[] e)) ?_ (h _ _ (bAi _ _))
  simp [execOp, ho, run_build0i w t e i ht hi, Result.andThen]
end
theorem infoItEi : ∃ i, Try.prog.info? 53 = some i := by obtain ⟨i, z, h, -⟩ := infoIt.ex; exact ⟨i, h⟩
theorem infoStEi : ∃ i, Try.prog.info? 9 = some i := by obtain ⟨i, z, h, -⟩ := infoS.ex; exact ⟨i, h⟩
end Go.Proofs.Ytmnjmghlkiljhaa.rg
