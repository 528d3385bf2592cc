/- make and copy on rows of integers, as steps of plain regions and of regions that draw their order. -/
import Derived.Test.YtgdoclaifnnpgaaSkMem
import Derived.Deep.RegionHeld3
namespace Go.Proofs.Ytgdoclaifnnpgaa.sk
open Go.ChangeShapes Go.WideShapes Go.ChangeAt Go.RowKit
set_option linter.unusedVariables false

/-- block b is a row of cells, none frozen -/
def VBlk (w : World) (b : Nat) (t : TypeId) (vs : List Value) : Prop := w.heap[b]? = some (.cells vs.toArray t (0, 0))
theorem VBlk.cell {w : World} {b : Nat} {t : TypeId} {vs : List Value} (h : VBlk w b t vs) (j : Nat) (hj : j < vs.length) : w.cell? ⟨b, j, none⟩ = some vs[j] := by
  rw [cell_of_row _ _ _ _ _ _ h]; simp [hj]
theorem VBlk.frozen {w : World} {b : Nat} {t : TypeId} {vs : List Value} (h : VBlk w b t vs) (j : Nat) : w.frozen? ⟨b, j, none⟩ = false := frozen_of_row _ _ _ _ _ h
theorem VBlk.lt {w : World} {b : Nat} {t : TypeId} {vs : List Value} (h : VBlk w b t vs) : b < w.heap.size := (Array.getElem?_eq_some_iff.1 h).1
theorem VBlk.of {w w' : World} {b : Nat} {t : TypeId} {vs : List Value} (h : VBlk w b t vs) (e : w'.heap[b]? = w.heap[b]?) : VBlk w' b t vs := by unfold VBlk; rw [e]; exact h
theorem VBlk.below {w w' : World} {B b : Nat} {t : TypeId} {vs : List Value} (h : VBlk w b t vs) (hb : Below B w w') (hlt : b < B) : VBlk w' b t vs := h.of (hb.block b hlt)
theorem VBlk.set {w : World} {b : Nat} {t : TypeId} {vs : List Value} (h : VBlk w b t vs) (i : Nat) (x : Value) : VBlk (w.setCell ⟨b, i, none⟩ x) b t (vs.set i x) := by
  unfold VBlk
  rw [heap_setCell_same w b i _ t _ h]
  simp
theorem VBlk.ints {w : World} {b : Nat} {t : TypeId} {n : Nat} (h : VBlk w b t (List.replicate n (.int .i64 0))) : Blk w b t (List.replicate n 0) := by
  unfold Blk; rw [h]; simp [sk.ints]

section ops
variable {P : Program} {ops : Array Oper} {rest : List Oper} {o : Oper} {a : Act} {w : World} {Q : Exit → Act → World → Prop} {K : Act → World → Prop} {E : Prop}

theorem step_val (hgd : o.guard = none) {v : Value} {w' : World} (hr : (execOp a.eval o).run P w = .ok (.value v) w') (h : K (a.put o.dst v) w') :
    if Region.wanted o (yielded ops a.tmps) = true then Oper.wp P o a w K Q else E := by
  have hw : Region.wanted o (yielded ops a.tmps) = true := by simp [Region.wanted, hgd]
  rw [if_pos hw]
  unfold Oper.wp
  rw [hr]
  exact h

theorem made_replicate (z : Value) (n : Nat) : madeCells #[z] n = (List.replicate n z).toArray := by
  apply Array.ext
  · simp [madeCells]
  · intro i h1 h2
    simp [madeCells, Nat.mod_one]

/-- a new row of n zero values -/
theorem exec_make (t e : TypeId) (l c : Operand) (ho : o.op = .makeSlice t l c) (z : Value) (bytes n : Nat) (ht : P.underlying t = some (.slice e)) (hinfo : (P.info? e).map (fun i => (i.zero, i.size, i.bytes)) = some (some z, 1, bytes)) (hz1 : z.cells = #[z])
    (hl : a.eval l = .int .i64 n) (hc : a.eval c = .int .i64 n) (hbytes : bytes * n ≤ 281474976710656) (h63 : n ≤ 9223372036854775807) :
    (execOp a.eval o).run P w = .ok (.value (.slice (some ⟨w.heap.size, 0, none⟩) n n)) (w.alloc (.cells (List.replicate n z).toArray e)) := by
  have hr := run_make_row' (P := P) t e z bytes ht hinfo hz1 .i64 .i64 n hbytes h63 w
  rw [made_replicate] at hr
  unfold execOp
  simp only [ho, hl, hc, Sem.run_bind, hr, Result.andThen_ok]
  rfl
theorem wpList_make (hgd : o.guard = none) (t e : TypeId) (l c : Operand) (ho : o.op = .makeSlice t l c) (z : Value) (bytes n : Nat) (ht : P.underlying t = some (.slice e)) (hinfo : (P.info? e).map (fun i => (i.zero, i.size, i.bytes)) = some (some z, 1, bytes)) (hz1 : z.cells = #[z])
    (hl : a.eval l = .int .i64 n) (hc : a.eval c = .int .i64 n) (hbytes : bytes * n ≤ 281474976710656) (h63 : n ≤ 9223372036854775807)
    (h : ∀ (b : Nat) (w' : World), w.heap.size ≤ b → b < w'.heap.size → Below w.heap.size w w' → VBlk w' b e (List.replicate n z) → wpList P ops Q rest (a.put o.dst (.slice (some ⟨b, 0, none⟩) n n)) w') : wpList P ops Q (o :: rest) a w :=
  wpList_val hgd (exec_make t e l c ho z bytes n ht hinfo hz1 hl hc hbytes h63) (h _ _ (Nat.le_refl _) (by simp) ((Below.refl _ _).alloc (Nat.le_refl _) _) (heap_alloc_new _ _))

/-- integers are copied from one row into another -/
theorem exec_copy (d s : Operand) (dT sT : TypeId) (ho : o.op = .call { callee := .builtin .copy, args := #[d, s], argTypes := #[dT, sT] }) (elem : TypeId) (hu : P.underlying dT = some (.slice elem)) (hsz : (P.info? elem).map (·.size) = some 1)
    (b k n c b' k' c' : Nat) (xs : List Int) (hn : xs.length = n) (hd : a.eval d = .slice (some ⟨b, k, none⟩) n c) (hs : a.eval s = .slice (some ⟨b', k', none⟩) n c') (hr : w.rangeAt b' k' (ints xs)) (ht : w.there b k n) :
    (execOp a.eval o).run P w = .ok (.value (goInt n)) (w.setCells b k (ints xs)) := by
  subst hn
  have hrun := run_copy_cells (P := P) w dT sT o.type elem b k xs.length c ⟨b', k', none⟩ xs.length c' (ints xs) hu hsz (by simp [ints_len]) (fun j v hv => by rw [Addr.add_mid]; exact hr j v hv)
    (fun j hj => (ht j (by simpa [ints_len] using hj)).1) (fun j hj => (ht j (by simpa [ints_len] using hj)).2) (ints_one xs)
  rw [ints_len] at hrun
  simp [execOp, ho, resolve, invoke, builtin, hd, hs, hrun, Result.andThen]
end ops

theorem info46 : (Try.prog.info? 46).map (fun i => (i.zero, i.size, i.bytes)) = some (some (.slice none 0 0), 1, 24) := by kernel_rfl
theorem info2 : (Try.prog.info? 2).map (fun i => (i.zero, i.size, i.bytes)) = some (some (.int .i64 0), 1, 8) := by kernel_rfl
theorem size2 : (Try.prog.info? 2).map (·.size) = some 1 := by kernel_rfl
theorem size46 : (Try.prog.info? 46).map (·.size) = some 1 := by kernel_rfl

end Go.Proofs.Ytgdoclaifnnpgaa.sk
