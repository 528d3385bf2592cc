/- By hand through a region that draws its order: one operation taken first, wanted or passed over. -/
import Derived.Test.YtmnjmghlkiljhaaRows
import Derived.Deep.RegionHeld3
import Derived.Maps.RangeWalk
namespace Go.Proofs.Ytmnjmghlkiljhaa.ce
open Go.RowKit
set_option linter.unusedVariables false
variable {P : Program} {ops : Array Oper} {Q : Exit → Act → World → Prop} {md : Region.Mode} {S : World → Prop}

/-- an operation that is wanted and yields v in every world that meets S -/
theorem takeW (i d : Nat) (v : Value) {op : Op} {ty : TypeId} {pos : String} {after : Array Edge} {g : Option (Nat × Bool)} {tmps : Array Value} {defers : List Deferred} {fuel : Nat} {listed : Array Bool} {w : World}
    (hi : ops[i]? = some ⟨some d, op, ty, pos, after, g⟩) (hs : Region.noSelect ops = true) (hf : Region.free md ops listed i = true) (hr : (Region.ready md ops listed).contains i = true)
    (hQ : ∀ c a w, Q (.panic c) (Act.put a (some d) v) w → Q (.panic c) a w)
    (hw : Region.wanted ⟨some d, op, ty, pos, after, g⟩ (yielded ops tmps) = true) (hy : ∀ w, S w → (execOp (Act.eval ⟨tmps, defers⟩) ⟨some d, op, ty, pos, after, g⟩).run P w = .ok (.value v) w) (hS : S w)
    (h : wpAnyH P md ops Q S fuel (listed.setIfInBounds i true) ⟨tmps.setIfInBounds d v, defers⟩ w) : wpAnyH P md ops Q S (fuel + 1) listed ⟨tmps, defers⟩ w :=
  wpAnyH_take (oi := ⟨some d, op, ty, pos, after, g⟩) (v := v) hi hs hf hr hQ (Or.inl ⟨hw, hy⟩) hS h
/-- an operation that is passed over -/
theorem takeU (i d : Nat) {op : Op} {ty : TypeId} {pos : String} {after : Array Edge} {g : Option (Nat × Bool)} {tmps : Array Value} {defers : List Deferred} {fuel : Nat} {listed : Array Bool} {w : World}
    (hi : ops[i]? = some ⟨some d, op, ty, pos, after, g⟩) (hs : Region.noSelect ops = true) (hf : Region.free md ops listed i = true) (hr : (Region.ready md ops listed).contains i = true)
    (hQ : ∀ c a w, Q (.panic c) (Act.put a (some d) undef) w → Q (.panic c) a w)
    (hw : Region.wanted ⟨some d, op, ty, pos, after, g⟩ (yielded ops tmps) = false) (hS : S w)
    (h : wpAnyH P md ops Q S fuel (listed.setIfInBounds i true) ⟨tmps.setIfInBounds d undef, defers⟩ w) : wpAnyH P md ops Q S (fuel + 1) listed ⟨tmps, defers⟩ w :=
  wpAnyH_take (oi := ⟨some d, op, ty, pos, after, g⟩) (v := undef) hi hs hf hr hQ (Or.inr ⟨hw, rfl⟩) hS h
end Go.Proofs.Ytmnjmghlkiljhaa.ce
