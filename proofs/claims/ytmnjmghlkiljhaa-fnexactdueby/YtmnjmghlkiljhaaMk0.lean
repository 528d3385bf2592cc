/- One cell is stored into a row that the call owns, whatever things lie in it. -/
import Derived.Test.YtmnjmghlkiljhaaRs2
import Derived.Lib.SmallJoins
import Derived.Deep.Slices
namespace Go.Proofs.Ytmnjmghlkiljhaa.rg
open Go.ChangeShapes Go.WideShapes Go.ChangeAt Go.RowKit
open Go.Deep Go.Joins
open Go.Proofs.Ytmnjmghlkiljhaa.ce Go.Proofs.Ytmnjmghlkiljhaa.ro
set_option linter.unusedVariables false

section
variable {α : Type} {ops : Array Oper} {rest : List Oper} {o : Oper} {a : Act} {w : World} {Q : Exit → Act → World → Prop}
theorem cells_one {v : Value} (h : v.oneCell' = true) : v.cells = #[v] := by cases v <;> first | rfl | cases h
theorem wpList_store_c (hgd : o.guard = none) (t : TypeId) (x y : Operand) (ho : o.op = .store t x y) (g j : Nat) (u : Value) (hx : a.eval x = .pointer (some ⟨g, j, none⟩)) (hy : a.eval y = u) (h1 : u.oneCell' = true) (hi : (Try.prog.info? t).map (·.size) = some 1)
    (old : Value) (hc : w.cell? ⟨g, j, none⟩ = some old) (hf : w.frozen? ⟨g, j, none⟩ = false) (h : wpList Try.prog ops Q rest (a.put o.dst undef) (w.setCell ⟨g, j, none⟩ u)) : wpList Try.prog ops Q (o :: rest) a w :=
  wpList_plain hgd fun _ hK => by
    unfold Oper.wp execOp
    obtain ⟨i, hi1, hi2⟩ := Option.map_eq_some_iff.1 hi
    simp [ho, hx, hy, Instr.storeAt, Instr.sureAddr, storeVar, sizeOf, typeInfo, hi1, hi2, cells_one h1, storeCells, run_store _ _ _ _ _ h1, hc, hf, Addr.add]
    exact hK _ _ h
/-- a row while it is marked: what lies in it, what was written -/
structure Mkd (E : Enc α) (w0 w : World) (lo hi : Nat) (v : Value) (L : List α) : Prop where
  o : Own E w lo hi v L
  wi : Within lo hi w0 w
  ty : Ty lo E.t w0 w
  lo : lo ≤ w.heap.size
theorem Mkd.grow {E : Enc α} {w0 w w' : World} {lo hi : Nat} {v : Value} {L : List α} (h : Mkd E w0 w lo hi v L) (hb : Below w.heap.size w w') : Mkd E w0 w' lo hi v L :=
  ⟨h.o.grow hb, h.wi.trans (Within.of_below hb (Nat.le_refl _)), h.ty.trans (Ty.of_below hb h.lo), Nat.le_trans h.lo hb.size⟩
theorem wpList_store_f {E : Enc α} (hgd : o.guard = none) (t : TypeId) (x y : Operand) (ho : o.op = .store t x y) {w0 : World} {lo hi g n cap : Nat} {A B : List α} {z : α} (m : Mkd E w0 w lo hi (.slice (some ⟨g, 0, none⟩) n cap) (A ++ z :: B)) (i j : Nat) (hA : A.length = i) (hj : j < E.k) (u : Value) (z' : α) (hz : E.put z' = (E.put z).set j u) (h1 : u.oneCell' = true) (hsz : (Try.prog.info? t).map (·.size) = some 1)
    (hx : a.eval x = .pointer (some ⟨g, i * E.k + j, none⟩)) (hy : a.eval y = u) (h : ∀ w', Mkd E w0 w' lo hi (.slice (some ⟨g, 0, none⟩) n cap) (A ++ z' :: B) → wpList Try.prog ops Q rest (a.put o.dst undef) w') : wpList Try.prog ops Q (o :: rest) a w := by
  subst hA
  have hl : A.length < (A ++ z :: B).length := by simp
  obtain ⟨g', e, hg, hc, hf⟩ := m.o.cell A.length j hl hj
  cases e
  refine wpList_store_c hgd t x y ho g _ u hx hy h1 hsz _ hc hf (h _ ⟨?_, ?_, ?_, ?_⟩)
  · have := m.o.set A.length j hl hj u z' (by rw [hz]; simp)
    simpa using this
  · exact m.wi.setCell (p := ⟨g, _, none⟩) hg.1 hg.2 _
  · exact m.ty.trans (own_ty m.o (by simp; omega) _ _)
  · simpa using m.lo
end
end Go.Proofs.Ytmnjmghlkiljhaa.rg
