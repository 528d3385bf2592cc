/- Cells that a call made: how they are owned; make, copy, append on them; copies of a heap. -/
import Derived.Test.YtbialeffdpmcjaaCe4
namespace Go.Proofs.Ytbialeffdpmcjaa.ce
open Go.ChangeShapes Go.WideShapes Go.ChangeAt Go.RowKit
set_option linter.unusedVariables false

theorem below_grown {B : Nat} {w w' : World} {row : Option Nat} (h : w.grownBy w' row) (hB : B ≤ w.heap.size) (hr : ∀ k, row = some k → B ≤ k) : Below B w w' := Below.grown (Below.refl _ w) h hB hr

section ops
variable {P : Program} {ops : Array Oper} {rest : List Oper} {o : Oper} {a : Act} {w : World} {Q : Exit → Act → World → Prop}

theorem run_copy_cells4 (w : World) (dT sT ty elem : TypeId) (b o dCap : Nat) (a : Addr) (n sCap : Nat) (cs : List Value)
    (hu : P.underlying dT = some (.slice elem)) (hs : (P.info? elem).map (·.size) = some 4) (hn : cs.length = n * 4)
    (hsrc : ∀ j v, cs[j]? = some v → w.cell? (a.add j) = some v) (hc : ∀ j, j < cs.length → (w.cell? ⟨b, o + j, none⟩).isSome = true) (hf : ∀ j, j < cs.length → w.frozen? ⟨b, o + j, none⟩ = false) (h1 : ∀ v ∈ cs, v.oneCell' = true) :
    (Builtin.copy_ #[dT, sT] ty #[.slice (some ⟨b, o, none⟩) n dCap, .slice (some a) n sCap]).run P w = .ok (goInt n) (w.setCells b o cs) := by
  have hl := run_loadCells_list (P := P) w a cs hsrc
  have hst := run_storeCells_cells (P := P) b o cs 0 w (by simpa using hc) (by simpa using hf) h1
  cases hq : P.info? elem with
  | none => simp [hq] at hs
  | some i =>
    have hi : i.size = 4 := by simpa [hq] using hs
    simp [Builtin.copy_, run_underlying hu, Builtin.lenOf, Builtin.firstCells, sizeOf, typeInfo, hq, hi, ← hn, hl, hst]

/-- all cells of one slice are copied into a row that the call made -/
theorem wpList_copy_c (hgd : o.guard = none) (d s : Operand) (dT sT : TypeId) (ho : o.op = .call { callee := .builtin .copy, args := #[d, s], argTypes := #[dT, sT] }) (elem : TypeId) (hu : P.underlying dT = some (.slice elem)) (hsz : (P.info? elem).map (·.size) = some 4)
    (b n c b' k' c' : Nat) (H : List C) (hn : H.length = n) (hd : a.eval d = .slice (some ⟨b, 0, none⟩) n c) (hs : a.eval s = .slice (some ⟨b', k', none⟩) n c') (hr : w.rangeAt b' k' (cvs H)) (lo : Nat) (e : TypeId) (X : List Value) (hown : w.ownsRow lo e 4 (.slice (some ⟨b, 0, none⟩) n c) n X)
    (h : ∀ w', Only b w w' → w'.ownsRow lo e 4 (.slice (some ⟨b, 0, none⟩) n c) n (cvs H) → wpList P ops Q rest (a.put o.dst (goInt n)) w') : wpList P ops Q (o :: rest) a w := by
  subst hn
  rcases hown.2 with ⟨h', _⟩ | ⟨g, cap, cur, h', hg, hb, hc1, hc2, hc3, htk⟩
  · simp at h'
  · cases h'
    have hrun := run_copy_cells4 (P := P) w dT sT o.type elem b 0 c ⟨b', k', none⟩ H.length c' (cvs H) hu hsz (cvs_len H) (fun j v hv => by rw [Addr.add_mid]; exact hr j v hv)
      (fun j hj => by rw [cvs_len] at hj; rw [cell_of_row _ _ _ _ _ _ hb]; simp; omega) (fun j hj => frozen_of_row _ _ _ _ _ hb) (cvs_one H)
    refine wpList_val hgd (w' := w.setCells b 0 (cvs H)) (v := goInt H.length) ?_ (h _ (only_setCells _ _ _ _) ⟨cvs_len H, .inr ⟨b, c, _, rfl, hg, heap_setCells b e (cvs H) 0 w cur.toList (by simpa using hb) (by rw [cvs_len]; simp; omega), hc1, hc2, ?_, ?_⟩⟩)
    · simp [execOp, ho, resolve, invoke, builtin, hd, hs, hrun, Result.andThen]
    · simp [cvs_len]; omega
    · simp [cvs_len]
end ops

end Go.Proofs.Ytbialeffdpmcjaa.ce
