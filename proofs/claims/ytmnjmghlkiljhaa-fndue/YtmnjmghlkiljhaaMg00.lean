/- Texts laid together: CeOps Ro1 Rx0 Ro2 Ix0 Io1 Ro3 Rs1. -/
import Derived.Test.YtmnjmghlkiljhaaRows
import Derived.WalkKit
import Derived.ProofKit
import Derived.OpenShut
import Derived.Below
import Derived.OwnWalk
import Derived.ArgAppend
import Derived.Deep.MidRow
import Derived.Deep.OwnRows
import Derived.Deep.RegionHeld3
import Derived.Deep.RegionLaw
import Derived.BigQuiet
import Derived.Laws.AppendOwnNone
import Derived.Lib.SliceRun
/- Structs in memory: what the operations on whole structs do, each with a new letter for the world. -/
namespace Go.Proofs.Ytmnjmghlkiljhaa.ce
open Go.ChangeShapes Go.WideShapes Go.ChangeAt Go.RowKit
set_option linter.unusedVariables false

/-- block b is a row of cells, none frozen -/
def VBlk (w : World) (b : Nat) (t : TypeId) (vs : List Value) : Prop := w.heap[b]? = some (.cells vs.toArray t (0, 0))
theorem VBlk.cell {w : World} {b : Nat} {t : TypeId} {vs : List Value} (h : VBlk w b t vs) (j : Nat) (hj : j < vs.length) : w.cell? ⟨b, j, none⟩ = some vs[j] := by
  rw [cell_of_row _ _ _ _ _ _ h]; simp [hj]
theorem VBlk.frozen {w : World} {b : Nat} {t : TypeId} {vs : List Value} (h : VBlk w b t vs) (j : Nat) : w.frozen? ⟨b, j, none⟩ = false := frozen_of_row _ _ _ _ _ h
theorem VBlk.lt {w : World} {b : Nat} {t : TypeId} {vs : List Value} (h : VBlk w b t vs) : b < w.heap.size := (Array.getElem?_eq_some_iff.1 h).1
theorem VBlk.of {w w' : World} {b : Nat} {t : TypeId} {vs : List Value} (h : VBlk w b t vs) (e : w'.heap[b]? = w.heap[b]?) : VBlk w' b t vs := by unfold VBlk; rw [e]; exact h
theorem VBlk.below {w w' : World} {B b : Nat} {t : TypeId} {vs : List Value} (h : VBlk w b t vs) (hb : Below B w w') (hlt : b < B) : VBlk w' b t vs := h.of (hb.block b hlt)
theorem VBlk.set {w : World} {b : Nat} {t : TypeId} {vs : List Value} (h : VBlk w b t vs) (i : Nat) (x : Value) : VBlk (w.setCell ⟨b, i, none⟩ x) b t (vs.set i x) := by
  unfold VBlk
  rw [heap_setCell_same w b i _ t _ h]
  simp
theorem VBlk.there {w : World} {b : Nat} {t : TypeId} {vs : List Value} (h : VBlk w b t vs) : w.there b 0 vs.length := fun j hj =>
  ⟨by simp only [Nat.zero_add]; rw [h.cell j hj]; rfl, by simp only [Nat.zero_add]; exact h.frozen j⟩
theorem VBlk.range {w : World} {b : Nat} {t : TypeId} {vs : List Value} (h : VBlk w b t vs) : w.rangeAt b 0 vs := fun j v hv => by
  rw [cell_of_row _ _ _ _ _ _ h]; simpa using hv
theorem VBlk.drew {w : World} {b : Nat} {t : TypeId} {vs : List Value} (h : VBlk w b t vs) : VBlk w.drew b t vs := h

theorem heap_setCells (b : Nat) (t : TypeId) : ∀ (vs : List Value) (k : Nat) (w : World) (cs : List Value), w.heap[b]? = some (.cells cs.toArray t (0, 0)) → k + vs.length ≤ cs.length →
    (w.setCells b k vs).heap[b]? = some (.cells (cs.take k ++ vs ++ cs.drop (k + vs.length)).toArray t (0, 0))
  | [], k, w, cs, h, hk => by simpa [World.setCells] using h
  | v :: r, k, w, cs, h, hk => by
    have h1 := heap_setCell_same w b k cs.toArray t v h
    have hk' : k < cs.length := by simp at hk; omega
    have ih := heap_setCells b t r (k + 1) (w.setCell ⟨b, k, none⟩ v) (cs.set k v) (by rw [h1]; simp) (by simp at hk ⊢; omega)
    rw [World.setCells, ih]
    congr 3
    rw [List.take_succ_eq_append_getElem (by simpa using hk'), List.getElem_set_self, List.take_set_of_le (Nat.le_refl _), List.drop_set_of_lt (by omega)]
    simp [Nat.add_comm, Nat.add_left_comm]
theorem heap_setCells_other (b : Nat) : ∀ (vs : List Value) (k : Nat) (w : World) (j : Nat), j ≠ b → (w.setCells b k vs).heap[j]? = w.heap[j]?
  | [], _, _, _, _ => rfl
  | v :: r, k, w, j, h => by rw [World.setCells, heap_setCells_other b r (k + 1) _ j h]; exact Below.heap_setCell _ _ _ _ h
theorem meta_setCells (b : Nat) : ∀ (vs : List Value) (k : Nat) (w : World), (w.setCells b k vs).os = w.os ∧ (w.setCells b k vs).tape = w.tape ∧ (w.setCells b k vs).output = w.output ∧ (w.setCells b k vs).heap.size = w.heap.size
  | [], _, _ => ⟨rfl, rfl, rfl, rfl⟩
  | v :: r, k, w => by
    rw [World.setCells]
    have ih := meta_setCells b r (k + 1) (w.setCell ⟨b, k, none⟩ v)
    exact ⟨ih.1, ih.2.1, ih.2.2.1, by rw [ih.2.2.2]; simp⟩
theorem below_setCells {B b : Nat} (w : World) (hb : B ≤ b) (vs : List Value) (k : Nat) : Below B w (w.setCells b k vs) :=
  have m := meta_setCells b vs k w
  ⟨m.1, m.2.1, m.2.2.1, by rw [m.2.2.2]; exact Nat.le_refl _, fun j hj => heap_setCells_other b vs k w j (by omega)⟩
/-- only block b is turned -/
def Only (b : Nat) (w w' : World) : Prop := w'.heap.size = w.heap.size ∧ (∀ j, j ≠ b → w'.heap[j]? = w.heap[j]?) ∧ ∀ B, B ≤ b → Below B w w'
theorem only_setCells (w : World) (b : Nat) (vs : List Value) (k : Nat) : Only b w (w.setCells b k vs) := ⟨(meta_setCells b vs k w).2.2.2, heap_setCells_other b vs k w, fun B hB => below_setCells w hB vs k⟩

/-- of the blocks that were there only those from lo up to hi may be turned -/
structure Within (lo hi : Nat) (w w' : World) : Prop where
  os : w'.os = w.os
  tape : w'.tape = w.tape
  output : w'.output = w.output
  size : w.heap.size ≤ w'.heap.size
  block : ∀ k, k < w.heap.size → (k < lo ∨ hi ≤ k) → w'.heap[k]? = w.heap[k]?
theorem Within.refl (lo hi : Nat) (w : World) : Within lo hi w w := ⟨rfl, rfl, rfl, Nat.le_refl _, fun _ _ _ => rfl⟩
theorem Within.trans {lo hi : Nat} {a b c : World} (h : Within lo hi a b) (k : Within lo hi b c) : Within lo hi a c :=
  ⟨k.os.trans h.os, k.tape.trans h.tape, k.output.trans h.output, Nat.le_trans h.size k.size, fun j hj hn => (k.block j (Nat.lt_of_lt_of_le hj h.size) hn).trans (h.block j hj hn)⟩
theorem Within.of_below {lo hi B : Nat} {w w' : World} (h : Below B w w') (hB : w.heap.size ≤ B) : Within lo hi w w' := ⟨h.os, h.tape, h.output, h.size, fun k hk _ => h.block k (by omega)⟩
theorem Within.setCell {lo hi : Nat} {a w : World} (h : Within lo hi a w) {p : Addr} (h1 : lo ≤ p.block) (h2 : p.block < hi) (u : Value) : Within lo hi a (w.setCell p u) :=
  h.trans ⟨rfl, rfl, rfl, by simp, fun k hk hn => Below.heap_setCell _ _ _ _ (by omega)⟩
theorem Within.drew {lo hi : Nat} {a w : World} (h : Within lo hi a w) : Within lo hi a w.drew := ⟨h.os, h.tape, h.output, h.size, h.block⟩
theorem Within.wide {lo hi lo' hi' : Nat} {w w' : World} (h : Within lo hi w w') (h1 : lo' ≤ lo) (h2 : hi ≤ hi') : Within lo' hi' w w' := ⟨h.os, h.tape, h.output, h.size, fun k hk hn => h.block k hk (by omega)⟩
theorem Within.below {lo hi B : Nat} {w w' : World} (h : Within lo hi w w') (h1 : B ≤ lo) (h2 : B ≤ w.heap.size) : Below B w w' := ⟨h.os, h.tape, h.output, h.size, fun k hk => h.block k (by omega) (by omega)⟩
theorem Within.only {lo hi b : Nat} {a w w' : World} (h : Within lo hi a w) (o : Only b w w') (h1 : lo ≤ b) (h2 : b < hi) : Within lo hi a w' := by
  have b0 := o.2.2 0 (Nat.zero_le _)
  exact h.trans ⟨b0.os, b0.tape, b0.output, b0.size, fun k hk hn => o.2.1 k (by omega)⟩

theorem below_drewN {B : Nat} (w : World) (n : Nat) : Below B w (w.drewN n) := ⟨rfl, rfl, rfl, Nat.le_refl _, fun _ _ => rfl⟩

section laws
variable {P : Program} {ops : Array Oper} {rest : List Oper} {o : Oper} {a : Act} {w : World} {Q : Exit → Act → World → Prop} {K : Act → World → Prop} {E : Prop}
theorem wpList_val (hgd : o.guard = none) {v : Value} {w' : World} (hr : (execOp a.eval o).run P w = .ok (.value v) w') (h : wpList P ops Q rest (a.put o.dst v) w') : wpList P ops Q (o :: rest) a w :=
  wpList_plain hgd fun K hK => by unfold Oper.wp; rw [hr]; exact hK _ _ h
theorem step_val (hgd : o.guard = none) {v : Value} {w' : World} (hr : (execOp a.eval o).run P w = .ok (.value v) w') (h : K (a.put o.dst v) w') :
    if Region.wanted o (yielded ops a.tmps) = true then Oper.wp P o a w K Q else E := by
  have hw : Region.wanted o (yielded ops a.tmps) = true := by simp [Region.wanted, hgd]
  rw [if_pos hw]
  unfold Oper.wp
  rw [hr]
  exact h

/-- a new variable that holds a struct -/
theorem wpList_box_v (hgd : o.guard = none) (t : TypeId) (x : Operand) (ho : o.op = .box t x) (vs : List Value) (hx : a.eval x = .agg vs.toArray)
    (h : ∀ (b : Nat) (w' : World), w.heap.size ≤ b → b < w'.heap.size → Below w.heap.size w w' → VBlk w' b t vs → wpList P ops Q rest (a.put o.dst (.pointer (some ⟨b, 0, none⟩))) w') : wpList P ops Q (o :: rest) a w := by
  refine wpList_val hgd (v := .pointer (some ⟨w.heap.size, 0, none⟩)) (w' := w.alloc (.cells vs.toArray t)) ?_ (h _ _ (Nat.le_refl _) (by simp) ((Below.refl _ _).alloc (Nat.le_refl _) _) (heap_alloc_new _ _))
  unfold execOp
  simp only [ho, hx]
  rfl
theorem wpList_alloc_v (hgd : o.guard = none) (t : TypeId) (ho : o.op = .alloc t) (vs : List Value) (hz : ∀ w, (zeroValue t).run P w = .ok (.agg vs.toArray) w)
    (h : ∀ (b : Nat) (w' : World), w.heap.size ≤ b → b < w'.heap.size → Below w.heap.size w w' → VBlk w' b t vs → wpList P ops Q rest (a.put o.dst (.pointer (some ⟨b, 0, none⟩))) w') : wpList P ops Q (o :: rest) a w := by
  refine wpList_val hgd (v := .pointer (some ⟨w.heap.size, 0, none⟩)) (w' := w.alloc (.cells vs.toArray t)) ?_ (h _ _ (Nat.le_refl _) (by simp) ((Below.refl _ _).alloc (Nat.le_refl _) _) (heap_alloc_new _ _))
  unfold execOp
  simp only [ho, Instr.alloc, Sem.run_bind, hz, Result.andThen_ok]
  rfl
/-- a struct is stored into its variable -/
theorem wpList_store_v (hgd : o.guard = none) (t : TypeId) (x y : Operand) (ho : o.op = .store t x y) (b : Nat) (ys : List Value) (hx : a.eval x = .pointer (some ⟨b, 0, none⟩)) (hy : a.eval y = .agg ys.toArray)
    (hi : (P.info? t).map (·.size) = some ys.length) {t' : TypeId} {vs : List Value} (hb : VBlk w b t' vs) (hn : ys.length = vs.length) (h1 : ∀ v ∈ ys, v.oneCell' = true)
    (h : ∀ w', Only b w w' → VBlk w' b t' ys → wpList P ops Q rest (a.put o.dst undef) w') : wpList P ops Q (o :: rest) a w := by
  refine wpList_store_mid hgd t x y ho b 0 ys.toArray hx hy ?_ (by rw [hi]; simp) (all_oneCell_toArray h1) ?_
  · rw [List.size_toArray, hn]; exact hb.there
  · refine h _ (only_setCells _ _ _ _) ?_
    unfold VBlk
    rw [heap_setCells b t' _ 0 w vs hb (by simp [hn])]
    simp [hn]
/-- a struct is loaded -/
theorem wpList_load_r (hgd : o.guard = none) (t : TypeId) (x : Operand) (ho : o.op = .load t x) (b k : Nat) (vs : List Value) (hx : a.eval x = .pointer (some ⟨b, k, none⟩)) (d : TypeDesc) (hu : P.underlying t = some d) (hd : d.isRow = true)
    (hi : (P.info? t).map (·.size) = some vs.length) (hr : w.rangeAt b k vs) (h : wpList P ops Q rest (a.put o.dst (.agg vs.toArray)) w) : wpList P ops Q (o :: rest) a w :=
  wpList_load_mid hgd t x ho b k hx vs d hr hu hd hi h
end laws

theorem row_retv {fn : Func} {p : Tmp} {ty : TypeId} (h : fn.results = #[.cell p ty]) {R : Ending → World → Prop} {a : Act} {w : World} {b : Nat} {t : TypeId} {vs : List Value} {fs : Array Field}
    (hp : a.tmps.getD p undef = .pointer (some ⟨b, 0, none⟩)) (hb : VBlk w b t vs) (hu : Try.prog.underlying ty = some (.struct fs))
    (hi : (Try.prog.info? ty).map (·.size) = some vs.length) (hdf : a.defers = []) (hR : R (.returned (.agg vs.toArray)) w) : bodyPost Try.prog fn R .ret a w :=
  bodyPost_ret (results_cell_row h a.tmps w b t _ _ _ hp hb hu rfl (by rw [hi]; simp)) hdf hR

theorem results_ct {fn : Func} {p u : Tmp} {ty : TypeId} (h : fn.results = #[.cell p ty, .tmp u]) (tmps : Array Value) (P : Program) (w : World) :
    (results fn tmps).run P w =
      ((asAddr (tmps.getD p undef)).run P w).andThen fun a w₁ => ((loadVar ty a).run P w₁).andThen fun v w₂ => .ok (.tuple #[v, tmps.getD u undef]) w₂ := by
  simp only [results, h]
  simp [Sem.run_bind, Result.andThen]
theorem row_ct {fn : Func} {p u : Tmp} {ty : TypeId} (h : fn.results = #[.cell p ty, .tmp u]) {R : Ending → World → Prop} {a : Act} {w : World} {b : Nat} {t : TypeId} {vs : List Value} {fs : Array Field} {x : Value}
    (hp : a.tmps.getD p undef = .pointer (some ⟨b, 0, none⟩)) (hx : a.tmps.getD u undef = x) (hb : VBlk w b t vs) (hu : Try.prog.underlying ty = some (.struct fs))
    (hi : (Try.prog.info? ty).map (·.size) = some vs.length) (hdf : a.defers = []) (hR : R (.returned (.tuple #[.agg vs.toArray, x])) w) : bodyPost Try.prog fn R .ret a w := by
  have hl := run_loadVar_row (P := Try.prog) w b t ty vs.toArray (0, 0) _ hb hu rfl (by rw [hi]; simp)
  refine bodyPost_ret ?_ hdf hR
  rw [results_ct h, hp, hx]
  simp [asAddr, hl]
end Go.Proofs.Ytmnjmghlkiljhaa.ce
/- Rows in memory, of whatever things lie in k cells each: how they are read, how a call owns them, what keeps them; append. -/
namespace Go.Proofs.Ytmnjmghlkiljhaa.ro
open Go.ChangeShapes Go.WideShapes Go.ChangeAt Go.RowKit
open Go.Proofs.Ytmnjmghlkiljhaa.ce
set_option linter.unusedVariables false

/-- how a thing lies in memory: in k cells, in blocks of the type t -/
structure Enc (α : Type) where
  put : α → List Value
  k : Nat
  t : TypeId
  len : ∀ x, (put x).length = k
  one : ∀ x, ∀ v ∈ put x, v.oneCell' = true
  pos : 0 < k

section plain
variable {α : Type} (E : Enc α)
def Enc.row (xs : List α) : List Value := xs.flatMap E.put
theorem Enc.row_nil : E.row [] = [] := rfl
theorem Enc.row_cons (x : α) (xs : List α) : E.row (x :: xs) = E.put x ++ E.row xs := by simp [Enc.row]
theorem Enc.row_one' (x : α) : E.row [x] = E.put x := by simp [Enc.row]
theorem Enc.row_append (xs ys : List α) : E.row (xs ++ ys) = E.row xs ++ E.row ys := by simp [Enc.row]
theorem Enc.row_len : ∀ xs : List α, (E.row xs).length = xs.length * E.k
  | [] => by simp [Enc.row]
  | x :: r => by rw [Enc.row_cons, List.length_append, E.len, Enc.row_len r, List.length_cons, Nat.add_mul]; omega
theorem Enc.row_cells (xs : List α) : ∀ v ∈ E.row xs, v.oneCell' = true := by
  intro v hv
  obtain ⟨x, -, hx⟩ := List.mem_flatMap.1 hv
  exact E.one x v hx
theorem Enc.row_get : ∀ (xs : List α) (i j : Nat) (hi : i < xs.length), j < E.k → (E.row xs)[i * E.k + j]? = (E.put xs[i])[j]?
  | [], i, j, hi, _ => by simp at hi
  | x :: r, 0, j, hi, hj => by
    rw [Enc.row_cons, Nat.zero_mul, Nat.zero_add, List.getElem?_append_left (by rw [E.len]; exact hj)]
    rfl
  | x :: r, i + 1, j, hi, hj => by
    rw [Enc.row_cons, List.getElem?_append_right (by rw [E.len, Nat.add_mul]; omega), E.len, show (i + 1) * E.k + j - E.k = i * E.k + j by rw [Nat.add_mul]; omega]
    exact Enc.row_get r i j (by simpa using hi) hj
theorem Enc.row_take : ∀ (xs : List α) (m : Nat), (E.row xs).take (m * E.k) = E.row (xs.take m)
  | [], m => by simp [Enc.row]
  | x :: r, 0 => by simp [Enc.row]
  | x :: r, m + 1 => by
    rw [Enc.row_cons, List.take_succ_cons, Enc.row_cons, ← Enc.row_take r m, List.take_append, E.len, List.take_of_length_le (by rw [E.len, Nat.add_mul]; omega), show (m + 1) * E.k - E.k = m * E.k by rw [Nat.add_mul]; omega]
theorem Enc.row_drop (xs : List α) (m : Nat) (hm : m ≤ xs.length) : (E.row xs).drop (m * E.k) = E.row (xs.drop m) := by
  have h : E.row xs = E.row (xs.take m) ++ E.row (xs.drop m) := by rw [← Enc.row_append, List.take_append_drop]
  have hl : (E.row (xs.take m)).length = m * E.k := by rw [Enc.row_len, List.length_take, Nat.min_eq_left hm]
  rw [h, ← hl, List.drop_left]
theorem Enc.row_set : ∀ (xs : List α) (i j : Nat) (hi : i < xs.length), j < E.k → ∀ (u : Value) (y : α), E.put y = (E.put xs[i]).set j u → (E.row xs).set (i * E.k + j) u = E.row (xs.set i y)
  | [], i, j, hi, _, _, _, _ => by simp at hi
  | x :: r, 0, j, hi, hj, u, y, hy => by
    rw [List.set_cons_zero, Enc.row_cons, Enc.row_cons, Nat.zero_mul, Nat.zero_add, List.set_append_left _ _ (by rw [E.len]; exact hj), hy]
    rfl
  | x :: r, i + 1, j, hi, hj, u, y, hy => by
    rw [List.set_cons_succ, Enc.row_cons, Enc.row_cons, List.set_append_right _ _ (by rw [E.len, Nat.add_mul]; omega), E.len, show (i + 1) * E.k + j - E.k = i * E.k + j by rw [Nat.add_mul]; omega, Enc.row_set r i j (by simpa using hi) hj u y (by simpa using hy)]
theorem Enc.row_replicate (x : α) (n : Nat) (v : Value) (h : E.put x = [v]) : E.row (List.replicate n x) = List.replicate n v := by
  induction n with
  | zero => simp [Enc.row]
  | succ n ih => rw [List.replicate_succ, Enc.row_cons, ih, h, List.replicate_succ]; rfl
end plain

theorem range_of {w w' : World} {b off : Nat} {vs : List Value} (h : w.rangeAt b off vs) (e : w'.heap[b]? = w.heap[b]?) : w'.rangeAt b off vs := fun j v hv => by
  rw [World.cell?_of_block (w := w) (w' := w') (a := ⟨b, off + j, none⟩) e]; exact h j v hv
theorem range_lt {w : World} {b off : Nat} {vs : List Value} (h : w.rangeAt b off vs) (hn : vs ≠ []) : b < w.heap.size := by
  cases vs with
  | nil => exact absurd rfl hn
  | cons v r => exact World.block_lt_of_cell? w _ (h 0 v rfl)
theorem below_grown {B : Nat} {w w' : World} {row : Option Nat} (h : w.grownBy w' row) (hB : B ≤ w.heap.size) (hr : ∀ k, row = some k → B ≤ k) : Below B w w' := Below.grown (Below.refl _ w) h hB hr

variable {α : Type}
/-- the things xs are read at the slice v -/
structure Rd (E : Enc α) (w : World) (v : Value) (xs : List α) : Prop where
  fits : ∃ a cap, v = .slice a xs.length cap ∧ xs.length ≤ cap ∧ cap ≤ maxLen ∧ (xs ≠ [] → ∃ b off, a = some ⟨b, off, none⟩ ∧ b < w.heap.size ∧ w.rangeAt b off (E.row xs))
theorem Rd.grow {E : Enc α} {w w' : World} {v : Value} {xs : List α} (r : Rd E w v xs) (hb : Below w.heap.size w w') : Rd E w' v xs := by
  obtain ⟨a, cap, e, h1, h2, h3⟩ := r.fits
  refine ⟨a, cap, e, h1, h2, fun hn => ?_⟩
  obtain ⟨b, off, e2, h4, h5⟩ := h3 hn
  exact ⟨b, off, e2, Nat.lt_of_lt_of_le h4 hb.size, range_of h5 (hb.block b h4)⟩
theorem Rd.drew {E : Enc α} {w : World} {v : Value} {xs : List α} (r : Rd E w v xs) : Rd E w.drew v xs := r.grow (Below.refl _ _).drew
theorem Rd.form {E : Enc α} {w : World} {v : Value} {xs : List α} (r : Rd E w v xs) : ∃ a cap, v = .slice a xs.length cap := by
  obtain ⟨a, cap, e, -⟩ := r.fits
  exact ⟨a, cap, e⟩
theorem Rd.len {E : Enc α} {w : World} {v : Value} {xs : List α} (r : Rd E w v xs) : xs.length ≤ 9223372036854775807 := by
  obtain ⟨a, cap, e, h1, h2, h3⟩ := r.fits
  unfold maxLen at h2; omega
theorem Rd.cap {E : Enc α} {w : World} {a : Option Addr} {n cap : Nat} {xs : List α} (r : Rd E w (.slice a n cap) xs) : n = xs.length ∧ n ≤ cap ∧ cap ≤ 9223372036854775807 := by
  obtain ⟨a', cap', e, h1, h2, h3⟩ := r.fits
  cases e
  unfold maxLen at h2; exact ⟨rfl, h1, h2⟩
theorem Rd.cell {E : Enc α} {w : World} {n cap : Nat} {a : Option Addr} {xs : List α} (r : Rd E w (.slice a n cap) xs) (i j : Nat) (hi' : i < xs.length) (hj : j < E.k) :
    ∃ b off, a = some ⟨b, off, none⟩ ∧ b < w.heap.size ∧ w.cell? ⟨b, off + (i * E.k + j), none⟩ = some ((E.put xs[i])[j]'(by rw [E.len]; exact hj)) := by
  obtain ⟨a', cap', e, h1, h2, h3⟩ := r.fits
  cases e
  obtain ⟨b, off, rfl, h4, h5⟩ := h3 (by intro e; subst e; simp at hi')
  refine ⟨b, off, rfl, h4, h5 _ _ ?_⟩
  rw [E.row_get xs i j hi' hj]
  exact List.getElem?_eq_getElem _
theorem Rd.start {E : Enc α} {w : World} {n cap : Nat} {a : Option Addr} {xs : List α} (r : Rd E w (.slice a n cap) xs) (h : 1 ≤ xs.length) : ∃ b off, a = some ⟨b, off, none⟩ ∧ b < w.heap.size ∧ w.rangeAt b off (E.row xs) := by
  obtain ⟨a', cap', e, h1, h2, h3⟩ := r.fits
  cases e
  exact h3 (by intro e; subst e; simp at h)
theorem rd_zero (E : Enc α) (w : World) (a : Option Addr) (cap : Nat) (hc : cap ≤ maxLen) : Rd E w (.slice a 0 cap) [] := ⟨a, cap, rfl, Nat.zero_le _, hc, fun h => absurd rfl h⟩
theorem Rd.take {E : Enc α} {w : World} {b off n cap : Nat} {xs : List α} (r : Rd E w (.slice (some ⟨b, off, none⟩) n cap) xs) (m : Nat) (hm : m ≤ xs.length) : Rd E w (.slice (some ⟨b, off, none⟩) m cap) (xs.take m) := by
  obtain ⟨a', cap', e, h1, h2, h3⟩ := r.fits
  cases e
  have hl : (xs.take m).length = m := by rw [List.length_take]; omega
  refine ⟨_, cap, by rw [hl], by omega, h2, fun hn => ?_⟩
  have hx : xs ≠ [] := fun e => hn (by rw [e]; simp)
  obtain ⟨b', off', e2, h4, h5⟩ := h3 hx
  cases e2
  refine ⟨b, off, rfl, h4, fun j u hj => h5 j u ?_⟩
  rw [← E.row_take, List.getElem?_take] at hj
  split at hj
  · exact hj
  · cases hj
theorem Rd.drop {E : Enc α} {w : World} {b off n cap : Nat} {xs : List α} (r : Rd E w (.slice (some ⟨b, off, none⟩) n cap) xs) (m : Nat) (hm : m ≤ xs.length) : Rd E w (.slice (some ⟨b, off + m * E.k, none⟩) (n - m) (cap - m)) (xs.drop m) := by
  obtain ⟨a', cap', e, h1, h2, h3⟩ := r.fits
  cases e
  have hl : (xs.drop m).length = xs.length - m := by rw [List.length_drop]
  refine ⟨_, cap - m, by rw [hl], by omega, by omega, fun hn => ?_⟩
  have hx : xs ≠ [] := fun e => hn (by rw [e]; simp)
  obtain ⟨b', off', e2, h4, h5⟩ := h3 hx
  cases e2
  refine ⟨b, off + m * E.k, rfl, h4, fun j u hj => ?_⟩
  rw [Nat.add_assoc]
  refine h5 (m * E.k + j) u ?_
  rw [← E.row_drop xs m hm, List.getElem?_drop] at hj
  exact hj
/-- the rest of a slice: at the end of its capacity it begins where the slice does -/
theorem Rd.rest {E : Enc α} {w : World} {b off n cap : Nat} {xs : List α} (r : Rd E w (.slice (some ⟨b, off, none⟩) n cap) xs) (m : Nat) (hm : m ≤ xs.length) :
    (m < cap ∧ Hid (Rd E w (.slice (some ⟨b, off + m * E.k, none⟩) (n - m) (cap - m)) (xs.drop m))) ∨ (m = cap ∧ n = m ∧ xs.drop m = [] ∧ Hid (Rd E w (.slice (some ⟨b, off, none⟩) 0 0) (xs.drop m))) := by
  have hd := r.drop m hm
  obtain ⟨e, h1, h2⟩ := r.cap
  by_cases hc : m < cap
  · exact .inl ⟨hc, hd⟩
  · have e2 : xs.drop m = [] := List.drop_eq_nil_of_le (by omega)
    refine .inr ⟨by omega, by omega, e2, ?_⟩
    rw [e2]
    exact rd_zero E w _ 0 (Nat.zero_le _)

/-- the things xs lie in a row of their own, in a block from lo up to hi; or there are none, and there is no room -/
structure Own (E : Enc α) (w : World) (lo hi : Nat) (v : Value) (xs : List α) : Prop where
  row : (xs = [] ∧ ∃ a, v = .slice a 0 0) ∨ ∃ g cap cur, v = .slice (some ⟨g, 0, none⟩) xs.length cap ∧ (lo ≤ g ∧ g < hi) ∧ w.heap[g]? = some (.cells cur E.t (0, 0)) ∧ xs.length ≤ cap ∧ cap ≤ maxLen ∧ cur.size = cap * E.k ∧ cur.toList.take (xs.length * E.k) = E.row xs
theorem Own.keepT {E : Enc α} {w w' : World} {lo hi : Nat} {v : Value} {xs : List α} (o : Own E w lo hi v xs) (s : ∀ g cur, w.heap[g]? = some (.cells cur E.t (0, 0)) → lo ≤ g → g < hi → w'.heap[g]? = w.heap[g]?) : Own E w' lo hi v xs := by
  rcases o.row with h | ⟨g, cap, cur, e, hg, hb, h⟩
  · exact ⟨.inl h⟩
  · exact ⟨.inr ⟨g, cap, cur, e, hg, by rw [s g cur hb hg.1 hg.2]; exact hb, h⟩⟩
theorem Own.keep {E : Enc α} {w w' : World} {lo hi : Nat} {v : Value} {xs : List α} (o : Own E w lo hi v xs) (s : ∀ k, lo ≤ k → k < hi → w'.heap[k]? = w.heap[k]?) : Own E w' lo hi v xs := o.keepT fun g _ _ h1 h2 => s g h1 h2
theorem Own.grow {E : Enc α} {w w' : World} {lo hi : Nat} {v : Value} {xs : List α} (o : Own E w lo hi v xs) (hb : Below w.heap.size w w') : Own E w' lo hi v xs := o.keepT fun g cur h _ _ => hb.block g (Array.getElem?_eq_some_iff.1 h).1
theorem Own.below {E : Enc α} {w w' : World} {lo hi B : Nat} {v : Value} {xs : List α} (o : Own E w lo hi v xs) (hb : Below B w w') (hB : hi ≤ B) : Own E w' lo hi v xs := o.keep fun k _ h2 => hb.block k (by omega)
theorem Own.within {E : Enc α} {w w' : World} {lo hi l2 h2 : Nat} {v : Value} {xs : List α} (o : Own E w lo hi v xs) (hw : Within l2 h2 w w') (hd : hi ≤ l2 ∨ h2 ≤ lo) : Own E w' lo hi v xs := o.keepT fun g cur h _ _ => hw.block g (Array.getElem?_eq_some_iff.1 h).1 (by omega)
theorem Own.only {E : Enc α} {w w' : World} {lo hi b : Nat} {v : Value} {xs : List α} {t : TypeId} {vs : List Value} (o : Own E w lo hi v xs) (h : Only b w w') (hb : VBlk w b t vs) (ht : E.t ≠ t) : Own E w' lo hi v xs := o.keepT fun g cur hg _ _ => h.2.1 g fun e => by
  rw [e] at hg
  have := hg.symm.trans hb
  simp at this
  exact ht this.2
theorem Own.wide {E : Enc α} {w : World} {lo hi lo' hi' : Nat} {v : Value} {xs : List α} (o : Own E w lo hi v xs) (h1 : lo' ≤ lo) (h2 : hi ≤ hi') : Own E w lo' hi' v xs := by
  rcases o.row with h | ⟨g, cap, cur, e, hg, hb, h⟩
  · exact ⟨.inl h⟩
  · exact ⟨.inr ⟨g, cap, cur, e, ⟨by omega, by omega⟩, hb, h⟩⟩
theorem Own.top {E : Enc α} {w : World} {lo hi : Nat} {v : Value} {xs : List α} (o : Own E w lo hi v xs) : Own E w lo w.heap.size v xs := by
  rcases o.row with h | ⟨g, cap, cur, e, hg, hb, h⟩
  · exact ⟨.inl h⟩
  · exact ⟨.inr ⟨g, cap, cur, e, ⟨hg.1, (Array.getElem?_eq_some_iff.1 hb).1⟩, hb, h⟩⟩
theorem own_zero (E : Enc α) (w : World) (lo hi : Nat) (a : Option Addr) : Own E w lo hi (.slice a 0 0) [] := ⟨.inl ⟨rfl, a, rfl⟩⟩
theorem Own.rd {E : Enc α} {w : World} {lo hi : Nat} {v : Value} {xs : List α} (o : Own E w lo hi v xs) : Rd E w v xs := by
  rcases o.row with ⟨rfl, a, rfl⟩ | ⟨g, cap, cur, rfl, hg, hb, hc1, hc2, hc3, htk⟩
  · exact rd_zero E w a 0 (Nat.zero_le _)
  · refine ⟨some ⟨g, 0, none⟩, cap, rfl, hc1, hc2, fun _ => ⟨g, 0, rfl, (Array.getElem?_eq_some_iff.1 hb).1, fun j u hj => ?_⟩⟩
    rw [cell_of_row _ _ _ _ _ _ hb]
    rw [← htk, List.getElem?_take] at hj
    split at hj
    · simpa using hj
    · cases hj
theorem Own.slice {E : Enc α} {w : World} {lo hi : Nat} {v : Value} {xs : List α} (o : Own E w lo hi v xs) : ∃ a n k, v = .slice a n k := by
  obtain ⟨a, cap, e⟩ := o.rd.form
  exact ⟨a, _, cap, e⟩
theorem Own.form {E : Enc α} {w : World} {lo hi : Nat} {v : Value} {xs : List α} (o : Own E w lo hi v xs) (hn : 1 ≤ xs.length) : ∃ g cap, v = .slice (some ⟨g, 0, none⟩) xs.length cap ∧ lo ≤ g ∧ g < hi ∧ g < w.heap.size := by
  rcases o.row with ⟨rfl, -⟩ | ⟨g, cap, cur, rfl, hg, hb, -⟩
  · simp at hn
  · exact ⟨g, cap, rfl, hg.1, hg.2, (Array.getElem?_eq_some_iff.1 hb).1⟩
theorem Own.cell {E : Enc α} {w : World} {lo hi n cap : Nat} {a : Option Addr} {xs : List α} (o : Own E w lo hi (.slice a n cap) xs) (i j : Nat) (hi' : i < xs.length) (hj : j < E.k) :
    ∃ g, a = some ⟨g, 0, none⟩ ∧ (lo ≤ g ∧ g < hi) ∧ w.cell? ⟨g, i * E.k + j, none⟩ = some ((E.put xs[i])[j]'(by rw [E.len]; exact hj)) ∧ w.frozen? ⟨g, i * E.k + j, none⟩ = false := by
  obtain ⟨b, off, e, -, hc⟩ := o.rd.cell i j hi' hj
  rcases o.row with ⟨rfl, -⟩ | ⟨g, cap', cur, e', hg, hb, -⟩
  · simp at hi'
  · cases e'
    cases e
    rw [Nat.zero_add] at hc
    exact ⟨_, rfl, hg, hc, frozen_of_row _ _ _ _ _ hb⟩
theorem Own.set {E : Enc α} {w : World} {lo hi g n cap : Nat} {xs : List α} (o : Own E w lo hi (.slice (some ⟨g, 0, none⟩) n cap) xs) (i j : Nat) (hi' : i < xs.length) (hj : j < E.k) (u : Value) (y : α) (hy : E.put y = (E.put xs[i]).set j u) :
    Own E (w.setCell ⟨g, i * E.k + j, none⟩ u) lo hi (.slice (some ⟨g, 0, none⟩) n cap) (xs.set i y) := by
  rcases o.row with ⟨rfl, -⟩ | ⟨g', cap', cur, e', hg, hb, hc1, hc2, hc3, htk⟩
  · simp at hi'
  · cases e'
    refine ⟨.inr ⟨g, cap, cur.setIfInBounds (i * E.k + j) u, by rw [List.length_set], hg, heap_setCell_same _ _ _ _ _ _ hb, by rw [List.length_set]; exact hc1, hc2, by simpa using hc3, ?_⟩⟩
    rw [Array.toList_setIfInBounds, List.length_set, List.take_set, htk, E.row_set xs i j hi' hj u y hy]
theorem Own.owns {E : Enc α} {w : World} {lo hi : Nat} {v : Value} {xs : List α} (o : Own E w lo hi v xs) : (xs = [] ∧ ∃ a, v = .slice a 0 0) ∨ w.ownsRow lo E.t E.k v xs.length (E.row xs) := by
  rcases o.row with h | ⟨g, cap, cur, e, hg, hb, h1, h2, h3, h4⟩
  · exact .inl h
  · exact .inr ⟨E.row_len xs, .inr ⟨g, cap, cur, e, hg.1, hb, h1, h2, h3, h4⟩⟩
theorem own_of {E : Enc α} {w : World} {lo : Nat} {v : Value} {xs : List α} (h : w.ownsRow lo E.t E.k v xs.length (E.row xs)) : Own E w lo w.heap.size v xs := by
  rcases h.2 with ⟨e, h0⟩ | ⟨g, cap, cur, e, hg, hb, h1, h2, h3, h4⟩
  · exact ⟨.inl ⟨List.eq_nil_of_length_eq_zero h0, none, e⟩⟩
  · exact ⟨.inr ⟨g, cap, cur, e, ⟨hg, (Array.getElem?_eq_some_iff.1 hb).1⟩, hb, h1, h2, h3, h4⟩⟩

/-- what the program knows of the type -/
structure Info (E : Enc α) : Prop where
  ex : ∃ (i : TypeInfo) (z : Value), Try.prog.info? E.t = some i ∧ i.zero = some z ∧ i.size = E.k ∧ i.bytes ≤ 1024 ∧ z.cells.size = E.k

/-- of the blocks that were there only such of the type t from lo on may be turned -/
structure Ty (lo : Nat) (t : TypeId) (w w' : World) : Prop where
  low : Below lo w w'
  keep : ∀ (k : Nat) (cur : Array Value) (t' : TypeId) (f : Nat × Nat), w.heap[k]? = some (.cells cur t' f) → t' ≠ t → w'.heap[k]? = w.heap[k]?
theorem Ty.refl (lo : Nat) (t : TypeId) (w : World) : Ty lo t w w := ⟨Below.refl _ _, fun _ _ _ _ _ _ => rfl⟩
theorem Ty.trans {lo : Nat} {t : TypeId} {x y z : World} (h : Ty lo t x y) (k : Ty lo t y z) : Ty lo t x z := ⟨h.low.trans k.low, fun j cur t' f hj ht => (k.keep j cur t' f (by rw [h.keep j cur t' f hj ht]; exact hj) ht).trans (h.keep j cur t' f hj ht)⟩
theorem Ty.of_below {lo : Nat} {t : TypeId} {w w' : World} (h : Below w.heap.size w w') (hl : lo ≤ w.heap.size) : Ty lo t w w' := ⟨h.mono hl, fun k cur t' f hk _ => h.block k (Array.getElem?_eq_some_iff.1 hk).1⟩
theorem Ty.vblk {lo : Nat} {t t' : TypeId} {w w' : World} {b : Nat} {vs : List Value} (h : Ty lo t w w') (hb : VBlk w b t' vs) (hn : t' ≠ t) : VBlk w' b t' vs := hb.of (h.keep b _ t' _ hb hn)
theorem Ty.own {lo l2 h2 : Nat} {t : TypeId} {E : Enc α} {w w' : World} {v : Value} {xs : List α} (h : Ty lo t w w') (o : Own E w l2 h2 v xs) (hn : E.t ≠ t) : Own E w' l2 h2 v xs := o.keepT fun g cur hg _ _ => h.keep g cur E.t _ hg hn

theorem run_append_zero {P : Program} (w : World) (t ty e : TypeId) (i : TypeInfo) (ht : P.underlying t = some (.slice e)) (hi : P.info? e = some i) (base : Option Addr) (n c : Nat) (hn : n ≤ c) (b' : Option Addr) (c' : Nat) :
    (Builtin.append_ #[t, t] ty #[.slice base n c, .slice b' 0 c']).run P w = .ok (.slice base n c) w := by
  have hf : (Builtin.firstCells i.size 0 (.slice b' 0 c')).run P w = .ok #[] w := by
    cases b' with
    | none => exact run_firstCells_none w i.size 0 0 c'
    | some a => exact run_firstCells_some w i.size 0 a 0 c' [] (by simp) (fun j v hj => by simp at hj)
  cases base <;> simp [Builtin.append_, run_underlying ht, sizeOf, typeInfo, hi, Builtin.lenOf, hn, hf, storeCells]

/-- things are appended to a row that the call owns -/
theorem run_append_g {E : Enc α} (I : Info E) (w : World) (t ty : TypeId) (ht : Try.prog.underlying t = some (.slice E.t)) (lo hi : Nat) (v : Value) (xs : List α) (o : Own E w lo hi v xs) (hlo : lo ≤ w.heap.size) (vx : Value) (ys : List α) (r : Rd E w vx ys) (hlen : xs.length + ys.length ≤ 1073741824) :
    ∃ v' w', (Builtin.append_ #[t, t] ty #[v, vx]).run Try.prog w = .ok v' w' ∧ Own E w' lo w'.heap.size v' (xs ++ ys) ∧ Ty lo E.t w w' := by
  obtain ⟨i0, z, hi0, hz0, hz1, hz2, hz3⟩ := I.ex
  obtain ⟨ax, cx, rfl, hx1, hx2, hx3⟩ := r.fits
  have hby : (xs.length + ys.length) * i0.bytes ≤ 140737488355328 := Nat.le_trans (Nat.mul_le_mul hlen hz2) (by omega)
  by_cases h0 : ys = []
  · subst h0
    obtain ⟨a, cap, rfl, h1, h2, -⟩ := o.rd.fits
    exact ⟨_, w, run_append_zero w t ty E.t i0 ht hi0 a xs.length cap h1 ax cx, by simpa using o.top, Ty.refl _ _ _⟩
  · obtain ⟨b, off, rfl, hb, hr⟩ := hx3 h0
    have hnews : ∀ j u, (E.row ys)[j]? = some u → w.cell? ((⟨b, off, none⟩ : Addr).add j) = some u := fun j u hj => by rw [Addr.add_mid]; exact hr j u hj
    have hy1 : 0 < ys.length := List.length_pos_iff.2 h0
    have grown : ∀ row : Option Nat, (∀ k, row = some k → lo ≤ k ∧ ∃ cur f, w.heap[k]? = some (.cells cur E.t f)) → ∀ w', w.grownBy w' row → Ty lo E.t w w' := fun row hrow w' hg =>
      ⟨below_grown hg hlo (fun k hk => (hrow k hk).1), fun k cur t' f hk hn => hg.block k (Array.getElem?_eq_some_iff.1 hk).1 (fun e => by
        obtain ⟨-, cur', f', h'⟩ := hrow k e.symm
        have := hk.symm.trans h'
        simp at this
        exact hn this.2.1)⟩
    rcases o.owns with ⟨rfl, a, rfl⟩ | ow
    · cases a with
      | none =>
        obtain ⟨v', w', h1, h2, h3, -⟩ := run_append_own (P := Try.prog) w lo t ty E.t i0 z E.k i0.bytes ht hi0 hz0 hz1 rfl hz3 E.pos (.slice none 0 0) 0 [] (World.ownsRow_nil w lo E.t E.k) ⟨b, off, none⟩ ys.length cx (E.row ys) (E.row_len ys) hnews (E.row_cells ys) (by unfold maxLen; simp at hlen; omega) (by simpa using hby) hlo
        refine ⟨v', w', h1, own_of (by simpa using h2), grown _ (fun k hk => by cases hk) w' h3⟩
      | some g =>
        obtain ⟨v', w', h1, h2, h3⟩ := run_append_arg_grows (P := Try.prog) (w := w) t ty E.t i0 z E.k i0.bytes ht hi0 hz0 hz1 rfl hz3 E.pos g 0 0 [] (by simp) (fun j u hj => by simp at hj) ⟨b, off, none⟩ ys.length cx (E.row ys) (E.row_len ys) hnews (by omega) (by unfold maxLen; simp at hlen; omega) (by simpa using hby)
        refine ⟨v', w', h1, ?_, grown _ (fun k hk => by cases hk) w' h3⟩
        have h4 : Own E w' w.heap.size w'.heap.size v' ys := own_of (by simpa using h2)
        exact (by simpa using h4.wide hlo (Nat.le_refl _))
    · obtain ⟨v', w', h1, h2, h3, -⟩ := run_append_own (P := Try.prog) w lo t ty E.t i0 z E.k i0.bytes ht hi0 hz0 hz1 rfl hz3 E.pos v xs.length (E.row xs) ow ⟨b, off, none⟩ ys.length cx (E.row ys) (E.row_len ys) hnews (E.row_cells ys) (by unfold maxLen; omega) hby hlo
      rw [← E.row_append, ← List.length_append] at h2
      refine ⟨v', w', h1, own_of h2, grown _ (fun k hk => ⟨(ow.lt k hk).1, ?_⟩) w' h3⟩
      rcases ow.2 with ⟨rfl, -⟩ | ⟨g, cap, cur, rfl, -, hb', -⟩
      · cases hk
      · cases hk
        exact ⟨cur, _, hb'⟩

section laws
variable {ops : Array Oper} {rest : List Oper} {o : Oper} {a : Act} {w : World} {Q : Exit → Act → World → Prop} {K : Act → World → Prop} {X : Prop}
theorem wpList_append_g {E : Enc α} (I : Info E) (hgd : o.guard = none) (s x : Operand) (t : TypeId) (ho : o.op = .call { callee := .builtin .append, args := #[s, x], argTypes := #[t, t] }) (ht : Try.prog.underlying t = some (.slice E.t)) (lo hi : Nat) (v : Value) (xs : List α) (hs : a.eval s = v) (own : Own E w lo hi v xs) (hlo : lo ≤ w.heap.size) (vx : Value) (ys : List α) (hx : a.eval x = vx) (r : Rd E w vx ys) (hlen : xs.length + ys.length ≤ 1073741824)
    (h : ∀ v' w', Own E w' lo w'.heap.size v' (xs ++ ys) → Ty lo E.t w w' → wpList Try.prog ops Q rest (a.put o.dst v') w') : wpList Try.prog ops Q (o :: rest) a w := by
  obtain ⟨v', w', h1, h2, h3⟩ := run_append_g I w t o.type ht lo hi v xs own hlo vx ys r hlen
  refine wpList_val hgd (v := v') (w' := w') ?_ (h v' w' h2 h3)
  simp [execOp, ho, resolve, invoke, builtin, hs, hx, h1, Result.andThen]
theorem step_append_g {E : Enc α} (I : Info E) (hgd : o.guard = none) (s x : Operand) (t : TypeId) (ho : o.op = .call { callee := .builtin .append, args := #[s, x], argTypes := #[t, t] }) (ht : Try.prog.underlying t = some (.slice E.t)) (lo hi : Nat) (v : Value) (xs : List α) (hs : a.eval s = v) (own : Own E w lo hi v xs) (hlo : lo ≤ w.heap.size) (vx : Value) (ys : List α) (hx : a.eval x = vx) (r : Rd E w vx ys) (hlen : xs.length + ys.length ≤ 1073741824)
    (h : ∀ v' w', Own E w' lo w'.heap.size v' (xs ++ ys) → Ty lo E.t w w' → K (a.put o.dst v') w') : if Region.wanted o (yielded ops a.tmps) = true then Oper.wp Try.prog o a w K Q else X := by
  obtain ⟨v', w', h1, h2, h3⟩ := run_append_g I w t o.type ht lo hi v xs own hlo vx ys r hlen
  refine step_val hgd (v := v') (w' := w') ?_ (h v' w' h2 h3)
  simp [execOp, ho, resolve, invoke, builtin, hs, hx, h1, Result.andThen]
theorem wpList_skp (hgd : o.guard = none) {w' : World} (hr : (execOp a.eval o).run Try.prog w = .ok .skip w') (h : wpList Try.prog ops Q rest (a.put o.dst undef) w') : wpList Try.prog ops Q (o :: rest) a w :=
  wpList_plain hgd fun K hK => by unfold Oper.wp; rw [hr]; exact hK _ _ h
end laws
/-- one new thing lies in a block of its own -/
theorem rd_new {E : Enc α} (w : World) (x : α) (cs : Array Value) (h : E.put x = cs.toList) (f : Nat × Nat := (0, 0)) : Rd E (w.alloc (.cells cs E.t)) (.slice (some ⟨w.heap.size, 0, none⟩) 1 1) [x] := by
  refine ⟨_, 1, rfl, Nat.le_refl _, by unfold maxLen; omega, fun _ => ⟨w.heap.size, 0, rfl, by simp, fun j u hj => ?_⟩⟩
  rw [Enc.row_one', h] at hj
  rw [cell_of_row _ _ _ _ _ _ (heap_alloc_new w (.cells cs E.t))]
  simpa using hj
theorem vblk_grow {w w' : World} {b : Nat} {t : TypeId} {vs : List Value} (h : VBlk w b t vs) (hb : Below w.heap.size w w') : VBlk w' b t vs := h.of (hb.block b h.lt)
theorem vblk_only {w w' : World} {b b' : Nat} {t : TypeId} {vs : List Value} (h : VBlk w b t vs) (ho : Only b' w w') (hn : b ≠ b') : VBlk w' b t vs := h.of (ho.2.1 b hn)
theorem only_set (w : World) (b j : Nat) (u : Value) : Only b w (w.setCell ⟨b, j, none⟩ u) := only_setCells w b [u] j
end Go.Proofs.Ytmnjmghlkiljhaa.ro
/- Mathematics of rings of names, no Go in sight: names, the place of one, right rings, who joins, is used, leaves; the hand's turn. -/
namespace Go.Proofs.Ytmnjmghlkiljhaa.rg
open Go.RowKit
set_option linter.unusedVariables false

/-- a byte of a name -/
def nbB (c : UInt8) : Bool := (decide (97 ≤ (c.toNat : Int)) && decide ((c.toNat : Int) ≤ 122)) || (decide (48 ≤ (c.toNat : Int)) && decide ((c.toNat : Int) ≤ 57)) || ((c.toNat : Int) == 45)
/-- a name -/
def nameB (s : ByteArray) : Bool := s.data.toList.all nbB && (decide (1 ≤ (s.size : Int)) && decide ((s.size : Int) ≤ 12))
theorem nameB_size {s : ByteArray} (h : nameB s = true) : 1 ≤ s.size ∧ s.size ≤ 12 := by
  unfold nameB at h
  simp only [Bool.and_eq_true, decide_eq_true_eq] at h
  omega

/-- the place of a text; -1: it is not there -/
def posS (s : ByteArray) : List ByteArray → Int
  | [] => -1
  | x :: r => if x = s then 0 else if posS s r < 0 then -1 else posS s r + 1
theorem posS_cases (s : ByteArray) : ∀ N : List ByteArray, (s ∉ N ∧ posS s N = -1) ∨ ∃ i : Nat, ∃ h : i < N.length, N[i] = s ∧ s ∉ N.take i ∧ posS s N = i
  | [] => .inl ⟨by simp, rfl⟩
  | x :: r => by
    by_cases hx : x = s
    · exact .inr ⟨0, by simp, by simpa using hx, by simp, by simp [posS, hx]⟩
    · rcases posS_cases s r with ⟨h1, h2⟩ | ⟨i, hi, h1, h2, h3⟩
      · refine .inl ⟨?_, by simp [posS, hx, h2]⟩
        simp only [List.mem_cons, not_or]
        exact ⟨fun e => hx e.symm, h1⟩
      · refine .inr ⟨i + 1, by simpa using hi, by simpa using h1, ?_, ?_⟩
        · simp only [List.take_succ_cons, List.mem_cons, not_or]
          exact ⟨fun e => hx e.symm, h2⟩
        · simp only [posS, if_neg hx, h3]
          rw [if_neg (by omega)]
          omega
theorem posS_no {s : ByteArray} {N : List ByteArray} (h : s ∉ N) : posS s N = -1 := by
  rcases posS_cases s N with ⟨-, e⟩ | ⟨i, hi, e, -⟩
  · exact e
  · exact absurd (e ▸ List.getElem_mem hi) h
theorem posS_at {s : ByteArray} {N : List ByteArray} {i : Nat} (hi : i < N.length) (he : N[i] = s) (hn : s ∉ N.take i) : posS s N = i := by
  rcases posS_cases s N with ⟨h, -⟩ | ⟨j, hj, e, hnj, hp⟩
  · exact absurd (he ▸ List.getElem_mem hi) h
  · rw [hp]
    rcases Nat.lt_trichotomy i j with q | q | q
    · exact absurd (List.mem_iff_getElem.2 ⟨i, by simp; omega, by simpa using he⟩) hnj
    · rw [q]
    · exact absurd (List.mem_iff_getElem.2 ⟨j, by simp; omega, by simpa using e⟩) hn
theorem posS_bd (s : ByteArray) (N : List ByteArray) : -1 ≤ posS s N ∧ posS s N < N.length := by
  rcases posS_cases s N with ⟨-, h⟩ | ⟨i, hi, -, -, h⟩ <;> rw [h] <;> omega
theorem posS_mem {s : ByteArray} {N : List ByteArray} : s ∈ N ↔ 0 ≤ posS s N := by
  rcases posS_cases s N with ⟨h, e⟩ | ⟨i, hi, e, -, h⟩
  · rw [e]; exact ⟨fun q => absurd q h, fun q => by omega⟩
  · rw [h]; exact ⟨fun _ => by omega, fun _ => e ▸ List.getElem_mem hi⟩
/-- of the first i + 1 the last one is found at i just where it is not among those ahead of it -/
theorem posS_self {N : List ByteArray} {i : Nat} (hi : i < N.length) : posS N[i] N = i ↔ N[i] ∉ N.take i := by
  constructor
  · intro h hm
    rcases posS_cases N[i] N with ⟨q, -⟩ | ⟨j, hj, e, hn, hp⟩
    · exact q (List.getElem_mem hi)
    · have : j = i := by omega
      subst this
      exact hn hm
  · exact fun h => posS_at hi rfl h

/-- names, unlike, at most twenty -/
def NOk (N : List ByteArray) : Prop := (∀ s ∈ N, nameB s = true) ∧ N.Nodup ∧ N.length ≤ 20
instance (N : List ByteArray) : Decidable (NOk N) := by unfold NOk; exact inferInstance
def namesB (N : List ByteArray) : Bool := decide (NOk N)
/-- the first i of them are names, unlike -/
def Pre (N : List ByteArray) (i : Nat) : Prop := (∀ s ∈ N.take i, nameB s = true) ∧ (N.take i).Nodup
theorem pre_zero (N : List ByteArray) : Pre N 0 := ⟨by simp, by simp⟩
theorem pre_succ {N : List ByteArray} {i : Nat} (h : Pre N i) (hi : i < N.length) (h1 : nameB N[i] = true) (h2 : N[i] ∉ N.take i) : Pre N (i + 1) := by
  unfold Pre
  rw [List.take_succ_eq_append_getElem hi]
  refine ⟨fun s hs => ?_, ?_⟩
  · rcases List.mem_append.1 hs with q | q
    · exact h.1 s q
    · rw [List.mem_singleton.1 q]; exact h1
  · rw [List.nodup_append]
    refine ⟨h.2, by simp, fun a ha b hb e => ?_⟩
    rw [List.mem_singleton] at hb
    rw [e, hb] at ha
    exact h2 ha
theorem pre_not1 {N : List ByteArray} {i : Nat} (hi : i < N.length) (h1 : nameB N[i] = false) : namesB N = false := by
  unfold namesB
  refine decide_eq_false fun h => ?_
  have := h.1 N[i] (List.getElem_mem hi)
  rw [h1] at this
  cases this
theorem pre_not2 {N : List ByteArray} {i : Nat} (hi : i < N.length) (h2 : N[i] ∈ N.take i) : namesB N = false := by
  unfold namesB
  refine decide_eq_false fun h => ?_
  obtain ⟨j, hj, e⟩ := List.mem_iff_getElem.1 h2
  simp at hj e
  exact (List.pairwise_iff_getElem.1 h.2.1) j i (by omega) hi (by omega) e
theorem pre_all {N : List ByteArray} (h : Pre N N.length) : namesB N = decide ((N.length : Int) ≤ 20) := by
  unfold Pre at h
  rw [List.take_length] at h
  unfold namesB
  by_cases q : N.length ≤ 20
  · rw [decide_eq_true (show NOk N from ⟨h.1, h.2, q⟩), decide_eq_true (by omega)]
  · rw [decide_eq_false (show ¬ NOk N from fun z => q z.2.2), decide_eq_false (by omega)]
theorem names_long {N : List ByteArray} (h : 20 < N.length) : namesB N = false := decide_eq_false fun z => by have := z.2.2; omega

/-- a ring -/
structure Rg where
  N : List ByteArray
  U : List Bool
  A : Int
def Rg.zero : Rg := ⟨[], [], 0⟩
def atB (n : Nat) (A : Int) : Bool := decide (0 ≤ A) && decide (A < max (n : Int) 1)
def ringB (r : Rg) : Bool := namesB r.N && (r.U.length == r.N.length) && atB r.N.length r.A
structure ROk (r : Rg) : Prop where
  nm : ∀ s ∈ r.N, nameB s = true
  nd : r.N.Nodup
  le : r.N.length ≤ 20
  us : r.U.length = r.N.length
  a0 : 0 ≤ r.A
  a1 : r.A < max (r.N.length : Int) 1
theorem ringB_iff {r : Rg} : ringB r = true ↔ ROk r := by
  simp only [ringB, namesB, atB, Bool.and_eq_true, decide_eq_true_eq, beq_iff_eq]
  exact ⟨fun ⟨⟨⟨h1, h2, h3⟩, h4⟩, h5, h6⟩ => ⟨h1, h2, h3, h4, h5, h6⟩, fun ⟨h1, h2, h3, h4, h5, h6⟩ => ⟨⟨⟨h1, h2, h3⟩, h4⟩, h5, h6⟩⟩
theorem ringB_not {r : Rg} (h : ¬ ringB r = true) : ringB r = false := by simpa using h

/-- may a name join? -/
def mayB (r : Rg) (s : ByteArray) : Bool := nameB s && decide (posS s r.N < 0) && !(r.N.length == 20)
def joined (r : Rg) (s : ByteArray) : Rg := ⟨r.N ++ [s], r.U ++ [false], r.A⟩
def jnB (r : Rg) (s : ByteArray) : Bool := ringB r && mayB r s
def jnR (r : Rg) (s : ByteArray) : Rg := if ringB r = true then (if mayB r s = true then joined r s else r) else Rg.zero
def used (r : Rg) (s : ByteArray) : Rg := if 0 ≤ posS s r.N then ⟨r.N, r.U.set (posS s r.N).toNat true, r.A⟩ else r
def usR (r : Rg) (s : ByteArray) : Rg := if ringB r = true then used r s else Rg.zero
/-- without the one at a place -/
def left (r : Rg) (i : Nat) : Rg :=
  ⟨r.N.take i ++ r.N.drop (i + 1), r.U.take i ++ r.U.drop (i + 1), if (if (i : Int) < r.A then r.A - 1 else r.A) < (r.N.length : Int) - 1 then (if (i : Int) < r.A then r.A - 1 else r.A) else 0⟩
def lvB (r : Rg) (s : ByteArray) : Bool := ringB r && decide (0 ≤ posS s r.N)
def lvR (r : Rg) (s : ByteArray) : Rg := if ringB r = true then (if 0 ≤ posS s r.N then left r (posS s r.N).toNat else r) else Rg.zero

/-- the hand goes on over those that are used -/
def turn (n : Nat) : Nat → List Bool → Nat → List Bool × Nat
  | 0, U, a => (U, a)
  | f + 1, U, a => if U[a]? = some true then turn n f (U.set a false) ((a + 1) % n) else (U, a)
def turned (r : Rg) : List Bool × Nat := turn r.N.length (r.U.count true) r.U r.A.toNat
def tuR (r : Rg) : Rg := if ringB r = true then (if r.N.length = 0 then r else ⟨r.N, (turned r).1, ((turned r).2 : Int)⟩) else Rg.zero
def tuS (r : Rg) : ByteArray := if ringB r = true then (if r.N.length = 0 then ⟨#[]⟩ else (r.N[(turned r).2]?).getD ⟨#[]⟩) else ⟨#[]⟩

theorem count_set {U : List Bool} {a : Nat} (h : U[a]? = some true) : (U.set a false).count true + 1 = U.count true := by
  obtain ⟨ha, e⟩ := List.getElem?_eq_some_iff.1 h
  have h1 : U = U.take a ++ U[a] :: U.drop (a + 1) := by simp
  have h2 : U.set a false = U.take a ++ false :: U.drop (a + 1) := by rw [List.set_eq_take_append_cons_drop, if_pos ha]
  rw [h2]
  conv => rhs; rw [h1]
  rw [e]
  simp
  omega
theorem turn_step {n : Nat} {U : List Bool} {a : Nat} (h : U[a]? = some true) : turn n (U.count true) U a = turn n ((U.set a false).count true) (U.set a false) ((a + 1) % n) := by
  rw [← count_set h]
  simp only [turn, h, if_true]
theorem turn_stop {n f : Nat} {U : List Bool} {a : Nat} (h : U[a]? ≠ some true) : turn n f U a = (U, a) := by
  cases f with
  | zero => rfl
  | succ f => simp only [turn, if_neg h]
theorem left_us {r : Rg} (h : r.U.length = r.N.length) (i : Nat) : (left r i).U.length = (left r i).N.length := by unfold left; simp [h]
theorem turn_len (n : Nat) : ∀ (f : Nat) (U : List Bool) (a : Nat), (turn n f U a).1.length = U.length
  | 0, U, a => rfl
  | f + 1, U, a => by
    unfold turn
    split
    · rw [turn_len n f]; simp
    · rfl
end Go.Proofs.Ytmnjmghlkiljhaa.rg
/- Rows of texts, of truths, of texts with truths; names, the model's and the program's. -/
namespace Go.Proofs.Ytmnjmghlkiljhaa.rg
open Go.ChangeShapes Go.WideShapes Go.ChangeAt Go.RowKit
open Go.Proofs.Ytmnjmghlkiljhaa.ce Go.Proofs.Ytmnjmghlkiljhaa.ro
set_option linter.unusedVariables false

def encS : Enc ByteArray := ⟨fun s => [.string s], 1, 9, fun _ => rfl, fun s v hv => by rw [List.mem_singleton.1 hv]; rfl, by decide⟩
def encB : Enc Bool := ⟨fun s => [.bool s], 1, 4, fun _ => rfl, fun s v hv => by rw [List.mem_singleton.1 hv]; rfl, by decide⟩
theorem infoS : Info encS := by
  have h : (Try.prog.info? 9).map (fun i => (i.zero, i.size, i.bytes)) = some (some (.string ⟨#[]⟩), 1, 16) := by kernel_rfl
  obtain ⟨i, hi, hz⟩ := Option.map_eq_some_iff.1 h
  simp only [Prod.mk.injEq] at hz
  exact ⟨i, _, hi, hz.1, hz.2.1, by omega, rfl⟩
theorem infoB : Info encB := by
  have h : (Try.prog.info? 4).map (fun i => (i.zero, i.size, i.bytes)) = some (some (.bool false), 1, 1) := by kernel_rfl
  obtain ⟨i, hi, hz⟩ := Option.map_eq_some_iff.1 h
  simp only [Prod.mk.injEq] at hz
  exact ⟨i, _, hi, hz.1, hz.2.1, by omega, rfl⟩
theorem rdS_cell {w : World} {n cap : Nat} {a : Option Addr} {xs : List ByteArray} (r : Rd encS w (.slice a n cap) xs) (i : Nat) (hi : i < xs.length) : ∃ b off, a = some ⟨b, off, none⟩ ∧ b < w.heap.size ∧ w.cell? ⟨b, off + i, none⟩ = some (.string xs[i]) := by
  obtain ⟨b, off, e, h1, h2⟩ := r.cell i 0 hi (show 0 < 1 by decide)
  exact ⟨b, off, e, h1, by simpa [encS] using h2⟩
theorem rdB_cell {w : World} {n cap : Nat} {a : Option Addr} {xs : List Bool} (r : Rd encB w (.slice a n cap) xs) (i : Nat) (hi : i < xs.length) : ∃ b off, a = some ⟨b, off, none⟩ ∧ b < w.heap.size ∧ w.cell? ⟨b, off + i, none⟩ = some (.bool xs[i]) := by
  obtain ⟨b, off, e, h1, h2⟩ := r.cell i 0 hi (show 0 < 1 by decide)
  exact ⟨b, off, e, h1, by simpa [encB] using h2⟩
theorem ownS_cell {w : World} {lo hi n cap : Nat} {a : Option Addr} {xs : List ByteArray} (o : Own encS w lo hi (.slice a n cap) xs) (i : Nat) (h : i < xs.length) : ∃ g, a = some ⟨g, 0, none⟩ ∧ (lo ≤ g ∧ g < hi) ∧ w.cell? ⟨g, i, none⟩ = some (.string xs[i]) ∧ w.frozen? ⟨g, i, none⟩ = false := by
  obtain ⟨g, e, h1, h2, h3⟩ := o.cell i 0 h (show 0 < 1 by decide)
  exact ⟨g, e, h1, by simpa [encS] using h2, by simpa [encS] using h3⟩
theorem ownB_cell {w : World} {lo hi n cap : Nat} {a : Option Addr} {xs : List Bool} (o : Own encB w lo hi (.slice a n cap) xs) (i : Nat) (h : i < xs.length) : ∃ g, a = some ⟨g, 0, none⟩ ∧ (lo ≤ g ∧ g < hi) ∧ w.cell? ⟨g, i, none⟩ = some (.bool xs[i]) ∧ w.frozen? ⟨g, i, none⟩ = false := by
  obtain ⟨g, e, h1, h2, h3⟩ := o.cell i 0 h (show 0 < 1 by decide)
  exact ⟨g, e, h1, by simpa [encB] using h2, by simpa [encB] using h3⟩
theorem ownS_set {w : World} {lo hi g n cap : Nat} {xs : List ByteArray} (o : Own encS w lo hi (.slice (some ⟨g, 0, none⟩) n cap) xs) (i : Nat) (h : i < xs.length) (x : ByteArray) : Own encS (w.setCell ⟨g, i, none⟩ (.string x)) lo hi (.slice (some ⟨g, 0, none⟩) n cap) (xs.set i x) := by
  have := o.set i 0 h (show 0 < 1 by decide) (.string x) x rfl
  simpa [encS] using this
theorem ownB_set {w : World} {lo hi g n cap : Nat} {xs : List Bool} (o : Own encB w lo hi (.slice (some ⟨g, 0, none⟩) n cap) xs) (i : Nat) (h : i < xs.length) (x : Bool) : Own encB (w.setCell ⟨g, i, none⟩ (.bool x)) lo hi (.slice (some ⟨g, 0, none⟩) n cap) (xs.set i x) := by
  have := o.set i 0 h (show 0 < 1 by decide) (.bool x) x rfl
  simpa [encB] using this
theorem hid_ex {β : Type} (x : β) : ∃ y, Hid (x = y) := ⟨x, rfl⟩
theorem bytes_inj {a b : ByteArray} (h : a.data.toList = b.data.toList) : a = b := by
  cases a; cases b; simp at h; rw [h]
theorem str_eq {a b : ByteArray} (h : a.toList = b.toList) : a = b := bytes_inj (by rw [← ByteArray.toList_eq, ← ByteArray.toList_eq]; exact h)

theorem in_is (x lo hi : Int) (y : Bool) (h : (decide (lo ≤ x) && decide (x ≤ hi)) = y) (w : World) : Calls Try.prog 69 #[.int .i64 x, .int .i64 lo, .int .i64 hi] w fun e w' => e = .returned (.bool y) ∧ w' = w := by
  by_cases h1 : lo ≤ x
  · by_cases h3 : x ≤ hi
    · rw [decide_eq_true h1, decide_eq_true h3] at h
      subst h
      go_enter Try.func69, Try.ntmps69
      go_wp2
      go_ret
      exact ⟨rfl, rfl⟩
    · rw [decide_eq_true h1, decide_eq_false h3] at h
      subst h
      go_enter Try.func69, Try.ntmps69
      go_wp2
      go_ret
      exact ⟨rfl, rfl⟩
  · rw [decide_eq_false h1] at h
    subst h
    go_enter Try.func69, Try.ntmps69
    go_wp2
    go_ret
    exact ⟨rfl, rfl⟩

theorem isNameByte_any (c : UInt8) (w : World) : Calls Try.prog 96 #[.int .u8 c.toNat] w fun e w' => e = .returned (.bool (nbB c)) ∧ w' = w := by
  obtain ⟨z, hz⟩ := hid_ex (nbB c)
  rw [hz.out]
  replace hz := hz.out
  unfold nbB at hz
  obtain ⟨n, hn⟩ : ∃ n : Int, (c.toNat : Int) = n := ⟨_, rfl⟩
  rw [hn] at hz ⊢
  clear hn
  by_cases h1 : 97 ≤ n <;> by_cases h2 : n ≤ 122 <;> by_cases h3 : 48 ≤ n <;> by_cases h4 : n ≤ 57 <;> by_cases h5 : n = 45 <;> first | omega | skip
  all_goals
    have h5b : (n == 45) = decide (n = 45) := rfl
    (first | rw [decide_eq_true h5] at h5b | rw [decide_eq_false h5] at h5b)
    (first | rw [decide_eq_true (show 97 ≤ n by omega)] at hz | rw [decide_eq_false (show ¬ 97 ≤ n by omega)] at hz)
    (first | rw [decide_eq_true (show n ≤ 122 by omega)] at hz | rw [decide_eq_false (show ¬ n ≤ 122 by omega)] at hz)
    (first | rw [decide_eq_true (show 48 ≤ n by omega)] at hz | rw [decide_eq_false (show ¬ 48 ≤ n by omega)] at hz)
    (first | rw [decide_eq_true (show n ≤ 57 by omega)] at hz | rw [decide_eq_false (show ¬ n ≤ 57 by omega)] at hz)
    rw [h5b] at hz
    subst hz
    go_enter Try.func96, Try.ntmps96
    go_wp2
    go_ret
    exact ⟨rfl, rfl⟩

theorem all_take_succ {s : ByteArray} {i : Nat} (hi : i < s.size) (h : (s.data.toList.take i).all nbB = true) : (s.data.toList.take (i + 1)).all nbB = nbB s[i] := by
  rw [List.take_succ_eq_append_getElem (by simpa using hi), List.all_append, h]
  simp
  rfl
theorem all_not {s : ByteArray} {i : Nat} (hi : i < s.size) (h : nbB s[i] = false) : nameB s = false := by
  unfold nameB
  have : s.data.toList.all nbB = false := by
    rw [List.all_eq_false]
    exact ⟨s[i], List.mem_iff_getElem.2 ⟨i, by simpa using hi, rfl⟩, by rw [h]; exact Bool.false_ne_true⟩
  rw [this]
  rfl
theorem all_yes {s : ByteArray} {i : Nat} (hi : ¬ i < s.size) (h : (s.data.toList.take i).all nbB = true) : (decide (1 ≤ (s.size : Int)) && decide ((s.size : Int) ≤ 12)) = nameB s := by
  rw [List.take_of_length_le (by simp; omega)] at h
  unfold nameB
  rw [h]
  rfl

theorem implNameOk_any (s : ByteArray) (hs : s.size ≤ 9223372036854775807) (w : World) : Calls Try.prog 50 #[.string s] w fun e w' => e = .returned (.bool (nameB s)) ∧ w' = w := by
  obtain ⟨z, hz⟩ := hid_ex (nameB s)
  rw [hz.out]
  by_cases h0 : s.size = 0
  · have ez : z = false := by rw [← hz.out]; unfold nameB; rw [h0]; simp
    subst ez
    have h0' : ((s.size : Int) == 0) = true := by simpa using h0
    go_enter Try.func50, Try.ntmps50
    go_wp2
    go_ret
    exact ⟨rfl, rfl⟩
  · have h0' : ((s.size : Int) == 0) = false := by simpa using h0
    by_cases h12 : 12 < (s.size : Int)
    · have ez : z = false := by rw [← hz.out]; unfold nameB; rw [decide_eq_false (show ¬ ((s.size : Int) ≤ 12) by omega)]; simp
      subst ez
      go_enter Try.func50, Try.ntmps50
      go_wp2
      go_ret
      exact ⟨rfl, rfl⟩
    · go_enter Try.func50, Try.ntmps50
      go_wp2
      go_loop [14] (fun v => ∃ i : Nat, i ≤ s.size ∧ v = .int .i64 i ∧ Hid ((s.data.toList.take i).all nbB = true)) (fun v => s.size - (intOf v).toNat)
      case atStart => exact ⟨0, by omega, rfl, rfl⟩
      case round =>
        obtain ⟨i, hi1, rfl, hA⟩ := hrel
        by_cases hlt : i < s.size
        · have hlt' : (i : Int) < (s.size : Int) := by omega
          cases hb : nbB s[i] with
          | true =>
            have hA2 : Hid ((s.data.toList.take (i + 1)).all nbB = true) := (all_take_succ hlt hA.out).trans hb
            go_wp2_with (first | (go_at_call 96; refine (isNameByte_any _ _).mono ?_; rintro e wq ⟨rfl, hq⟩; subst wq; rw [hb]) | (fail))
            go_round
            case rel => exact ⟨i + 1, by omega, by go_num, hA2⟩
            case measure => simp [intOf]; omega
          | false =>
            have ez : z = false := by rw [← hz.out]; exact all_not hlt hb
            subst ez
            go_wp2_with (first | (go_at_call 96; refine (isNameByte_any _ _).mono ?_; rintro e wq ⟨rfl, hq⟩; subst wq; rw [hb]) | (fail))
            go_ret
            exact ⟨rfl, rfl⟩
        · have hlt' : ¬ (i : Int) < (s.size : Int) := by omega
          have ez : z = true := by
            rw [← hz.out, ← all_yes hlt hA.out, decide_eq_true (show 1 ≤ (s.size : Int) by omega), decide_eq_true (show (s.size : Int) ≤ 12 by omega)]
            rfl
          subst ez
          go_wp2
          go_ret
          exact ⟨rfl, rfl⟩

theorem specNameOk_any (s : ByteArray) (hs : s.size ≤ 9223372036854775807) (w : World) : Calls Try.prog 25 #[.string s] w fun e w' => e = .returned (.bool (nameB s)) ∧ w' = w := by
  obtain ⟨z, hz⟩ := hid_ex (nameB s)
  rw [hz.out]
  go_enter Try.func25, Try.ntmps25
  go_wp2
  go_loop [3] (fun v => ∃ i : Nat, i ≤ s.size ∧ v = .int .i64 i ∧ Hid ((s.data.toList.take i).all nbB = true)) (fun v => s.size - (intOf v).toNat)
  case atStart => exact ⟨0, by omega, rfl, rfl⟩
  case round =>
    obtain ⟨i, hi1, rfl, hA⟩ := hrel
    by_cases hlt : i < s.size
    · have hlt' : (i : Int) < (s.size : Int) := by omega
      have hA2 := all_take_succ hlt hA.out
      have hN := all_not (s := s) hlt
      unfold nbB at hA2 hN
      obtain ⟨n, hn⟩ : ∃ n : Int, (s[i].toNat : Int) = n := ⟨_, rfl⟩
      rw [hn] at hA2 hN
      have h5b : (n == 45) = decide (n = 45) := rfl
      have h5c : (n != 45) = !decide (n = 45) := rfl
      by_cases h1 : n < 97 <;> by_cases h2 : 122 < n <;> by_cases h3 : n < 48 <;> by_cases h4 : 57 < n <;> by_cases h5 : n = 45 <;> first | omega | skip
      all_goals
        (first | rw [decide_eq_true h5] at h5b h5c | rw [decide_eq_false h5] at h5b h5c)
        (first | rw [decide_eq_true (show 97 ≤ n by omega)] at hA2 hN | rw [decide_eq_false (show ¬ 97 ≤ n by omega)] at hA2 hN)
        (first | rw [decide_eq_true (show n ≤ 122 by omega)] at hA2 hN | rw [decide_eq_false (show ¬ n ≤ 122 by omega)] at hA2 hN)
        (first | rw [decide_eq_true (show 48 ≤ n by omega)] at hA2 hN | rw [decide_eq_false (show ¬ 48 ≤ n by omega)] at hA2 hN)
        (first | rw [decide_eq_true (show n ≤ 57 by omega)] at hA2 hN | rw [decide_eq_false (show ¬ n ≤ 57 by omega)] at hA2 hN)
        rw [h5b] at hA2 hN
        first
          | (have ez : z = false := (by rw [← hz.out]; exact hN rfl)
             subst ez
             clear hA2 hN
             go_wp2
             go_ret
             exact ⟨rfl, rfl⟩)
          | (have hA3 : Hid ((s.data.toList.take (i + 1)).all nbB = true) := hA2
             clear hA2 hN
             go_wp2
             go_round
             case rel => exact ⟨i + 1, by omega, by go_num, hA3⟩
             case measure => simp [intOf]; omega)
    · have hlt' : ¬ (i : Int) < (s.size : Int) := by omega
      have hy : Hid ((decide (1 ≤ (s.size : Int)) && decide ((s.size : Int) ≤ 12)) = z) := (all_yes hlt hA.out).trans hz.out
      go_wp2_with (first | (go_at_call 69; refine (in_is _ 1 12 z hy.out _).mono ?_; rintro e wq ⟨rfl, hq⟩; subst wq) | (fail))
      go_ret
      exact ⟨rfl, rfl⟩
end Go.Proofs.Ytmnjmghlkiljhaa.rg
/- Mathematics of things and books of things, no Go in sight. -/
namespace Go.Proofs.Ytmnjmghlkiljhaa.rg
open Go.RowKit
set_option linter.unusedVariables false

/-! ### texts in their order -/
theorem less_irrefl : ∀ x : List UInt8, Op.bytesLess x x = false
  | [] => rfl
  | a :: x => by
    have := less_irrefl x
    simp [Op.bytesLess, this]
theorem less_trans : ∀ x y z : List UInt8, Op.bytesLess x y = true → Op.bytesLess y z = true → Op.bytesLess x z = true
  | [], [], z, h, _ => by simp [Op.bytesLess] at h
  | a :: x, [], z, h, _ => by simp [Op.bytesLess] at h
  | x, b :: y, [], _, h => by simp [Op.bytesLess] at h
  | [], b :: y, c :: z, _, _ => by simp [Op.bytesLess]
  | a :: x, b :: y, c :: z, h1, h2 => by
    simp only [Op.bytesLess, Bool.or_eq_true, Bool.and_eq_true, decide_eq_true_eq, beq_iff_eq] at h1 h2 ⊢
    rcases h1 with h1 | ⟨rfl, h1⟩
    · rcases h2 with h2 | ⟨rfl, h2⟩
      · exact .inl (UInt8.lt_trans h1 h2)
      · exact .inl h1
    · rcases h2 with h2 | ⟨rfl, h2⟩
      · exact .inl h2
      · exact .inr ⟨rfl, less_trans x y z h1 h2⟩
/-- one text stands ahead of another -/
def ltS (a b : ByteArray) : Bool := Op.bytesLess a.toList b.toList
theorem ltS_irrefl (a : ByteArray) : ltS a a = false := less_irrefl _
theorem ltS_trans {a b c : ByteArray} (h : ltS a b = true) (k : ltS b c = true) : ltS a c = true := less_trans _ _ _ h k
theorem ltS_ne {a b : ByteArray} (h : ltS a b = true) : a ≠ b := fun e => by rw [e, ltS_irrefl] at h; cases h

/-- a thing -/
structure It where
  N : ByteArray
  F : Int
  B : ByteArray
  C : Int
  U : Int
def It.zero : It := ⟨⟨#[]⟩, 0, ⟨#[]⟩, 0, 0⟩
def itemB (i : It) : Bool := nameB i.N && (decide (0 ≤ i.F) && decide (i.F ≤ 65535)) && decide ((i.B.size : Int) ≤ 64) && (decide (1 ≤ i.C) && decide (i.C ≤ 1000000)) && (decide (0 ≤ i.U) && decide (i.U ≤ 1000000))
structure IOk (i : It) : Prop where
  nm : nameB i.N = true
  f0 : 0 ≤ i.F
  f1 : i.F ≤ 65535
  b1 : i.B.size ≤ 64
  c0 : 1 ≤ i.C
  c1 : i.C ≤ 1000000
  u0 : 0 ≤ i.U
  u1 : i.U ≤ 1000000
theorem itemB_iff {i : It} : itemB i = true ↔ IOk i := by
  simp only [itemB, Bool.and_eq_true, decide_eq_true_eq]
  exact ⟨fun ⟨⟨⟨⟨h1, h2, h3⟩, h4⟩, h5, h6⟩, h7, h8⟩ => ⟨h1, h2, h3, by omega, h5, h6, h7, h8⟩, fun ⟨h1, h2, h3, h4, h5, h6, h7, h8⟩ => ⟨⟨⟨⟨h1, h2, h3⟩, by omega⟩, h5, h6⟩, h7, h8⟩⟩
def wt (i : It) : Nat := i.N.size + i.B.size + 8
theorem wt_le {i : It} (h : IOk i) : wt i ≤ 84 := by have := (nameB_size h.nm).2; have := h.b1; unfold wt; omega
def wtI (i : It) : Int := if itemB i = true then (wt i : Int) else -1
def overB (i : It) (now : Int) : Bool := !(i.U == 0) && decide (i.U ≤ now)

/-- things in the order of their names, at most twenty -/
def BOk (b : List It) : Prop := (∀ i ∈ b, itemB i = true) ∧ (b.map (·.N)).Pairwise (fun x y => ltS x y = true) ∧ b.length ≤ 20
instance (b : List It) : Decidable (BOk b) := by unfold BOk; exact inferInstance
def bookB (b : List It) : Bool := decide (BOk b)
theorem bookB_iff {b : List It} : bookB b = true ↔ BOk b := by unfold bookB; exact decide_eq_true_iff
theorem BOk.nodup {b : List It} (h : BOk b) : (b.map (·.N)).Nodup := h.2.1.imp fun q => ltS_ne q
/-- the first k of them are right things in their order -/
def PreB (b : List It) (k : Nat) : Prop := (∀ i ∈ b.take k, itemB i = true) ∧ ((b.take k).map (·.N)).Pairwise (fun x y => ltS x y = true)
theorem preB_zero (b : List It) : PreB b 0 := ⟨by simp, by simp⟩
theorem preB_succ {b : List It} {k : Nat} (h : PreB b k) (hk : k < b.length) (h1 : itemB b[k] = true) (h2 : ∀ h0 : 0 < k, ltS (b[k - 1]'(by omega)).N b[k].N = true) : PreB b (k + 1) := by
  unfold PreB
  rw [List.take_succ_eq_append_getElem hk]
  refine ⟨fun i hi => ?_, ?_⟩
  · rcases List.mem_append.1 hi with q | q
    · exact h.1 i q
    · rw [List.mem_singleton.1 q]; exact h1
  · rw [List.map_append, List.pairwise_append]
    refine ⟨h.2, by simp, fun x hx y hy => ?_⟩
    simp only [List.map_cons, List.map_nil, List.mem_singleton] at hy
    rw [hy]
    have h0 : 0 < k := by
      cases k with
      | zero => simp at hx
      | succ k => omega
    have hl := h2 h0
    obtain ⟨j, hj, e⟩ := List.mem_iff_getElem.1 hx
    simp only [List.length_map, List.length_take, List.getElem_map, List.getElem_take] at hj e
    by_cases hjk : j = k - 1
    · subst hjk
      rw [← e]
      exact hl
    · refine ltS_trans ?_ hl
      have := List.pairwise_iff_getElem.1 h.2 j (k - 1) (by simp; omega) (by simp; omega) (by omega)
      simp only [List.getElem_map, List.getElem_take] at this
      rw [← e]
      exact this
theorem preB_not1 {b : List It} {k : Nat} (hk : k < b.length) (h : itemB b[k] = false) : bookB b = false := by
  unfold bookB
  refine decide_eq_false fun q => ?_
  have := q.1 b[k] (List.getElem_mem hk)
  rw [h] at this
  cases this
theorem preB_not2 {b : List It} {k : Nat} (hk : k < b.length) (h0 : 0 < k) (h : ltS (b[k - 1]'(by omega)).N b[k].N = false) : bookB b = false := by
  unfold bookB
  refine decide_eq_false fun q => ?_
  have := List.pairwise_iff_getElem.1 q.2.1 (k - 1) k (by simp; omega) (by simp; omega) (by omega)
  simp only [List.getElem_map] at this
  rw [h] at this
  cases this
theorem preB_all {b : List It} (h : PreB b b.length) : bookB b = decide ((b.length : Int) ≤ 20) := by
  unfold PreB at h
  rw [List.take_length] at h
  unfold bookB
  by_cases q : b.length ≤ 20
  · rw [decide_eq_true (show BOk b from ⟨h.1, h.2, q⟩), decide_eq_true (by omega)]
  · rw [decide_eq_false (show ¬ BOk b from fun z => q z.2.2), decide_eq_false (by omega)]
theorem book_long {b : List It} (h : 20 < b.length) : bookB b = false := decide_eq_false fun z => by have := z.2.2; omega
/-- the place of a name in a book -/
def findI (b : List It) (s : ByteArray) : Int := posS s (b.map (·.N))
theorem findI_self {b : List It} (h : BOk b) {k : Nat} (hk : k < b.length) : findI b b[k].N = k := by
  unfold findI
  have hk' : k < (b.map (·.N)).length := by rw [List.length_map]; exact hk
  have e : (b.map (·.N))[k] = b[k].N := by rw [List.getElem_map]
  refine posS_at hk' e fun hm => ?_
  obtain ⟨j, hj, e2⟩ := List.mem_iff_getElem.1 hm
  simp at hj e2
  have := List.pairwise_iff_getElem.1 h.nodup j k (by simp; omega) hk' (by omega)
  simp only [List.getElem_map] at this
  exact this e2
theorem findI_at {b : List It} {s : ByteArray} (h : 0 ≤ findI b s) : ∃ k : Nat, ∃ hk : k < b.length, findI b s = k ∧ b[k].N = s := by
  unfold findI at h ⊢
  rcases posS_cases s (b.map (·.N)) with ⟨-, e⟩ | ⟨k, hk, e, -, e2⟩
  · omega
  · rw [List.length_map] at hk
    rw [List.getElem_map] at e
    exact ⟨k, hk, e2, e⟩
/-- how heavy -/
def sumW (b : List It) : Nat := (b.map wt).sum
def heavyI (b : List It) : Int := if bookB b = true then (sumW b : Int) else -1
theorem sumW_next {b : List It} {k : Nat} (hk : k < b.length) : sumW (b.take (k + 1)) = sumW (b.take k) + wt b[k] := by
  unfold sumW
  rw [List.take_succ_eq_append_getElem hk, List.map_append, List.sum_append]
  rfl
theorem sumW_le {b : List It} (h : ∀ i ∈ b, itemB i = true) : sumW b ≤ b.length * 84 := by
  induction b with
  | nil => simp [sumW]
  | cons i r ih =>
    have h1 := wt_le (itemB_iff.1 (h i (List.mem_cons_self ..)))
    have h2 := ih fun j hj => h j (List.mem_cons_of_mem _ hj)
    unfold sumW at h2 ⊢
    simp only [List.map_cons, List.sum_cons, List.length_cons, Nat.add_mul]
    omega
theorem sumW_small {b : List It} (h : BOk b) (k : Nat) : sumW (b.take k) ≤ 1680 := by
  have h1 := sumW_le (b := b.take k) fun i hi => h.1 i (List.mem_of_mem_take hi)
  rw [List.length_take] at h1
  have := h.2.2
  have : min k b.length * 84 ≤ 20 * 84 := Nat.mul_le_mul_right _ (by omega)
  omega
theorem wtI_yes {i : It} (h : itemB i = true) : wtI i = wt i := if_pos h
end Go.Proofs.Ytmnjmghlkiljhaa.rg
/- Things in memory, one or a row of them; contracts of the model's answers on one thing. -/
namespace Go.Proofs.Ytmnjmghlkiljhaa.rg
open Go.ChangeShapes Go.WideShapes Go.ChangeAt Go.RowKit
open Go.Proofs.Ytmnjmghlkiljhaa.ce Go.Proofs.Ytmnjmghlkiljhaa.ro
set_option linter.unusedVariables false

/-- the cells of a thing -/
def ic (i : It) : List Value := [.string i.N, .int .i64 i.F, .string i.B, .int .i64 i.C, .int .i64 i.U]
theorem ic_one (i : It) : ∀ v ∈ ic i, v.oneCell' = true := by
  intro v hv
  simp only [ic, List.mem_cons, List.not_mem_nil, or_false] at hv
  rcases hv with rfl | rfl | rfl | rfl | rfl <;> rfl
def encIt : Enc It := ⟨ic, 5, 53, fun _ => rfl, ic_one, by decide⟩
def encLi : Enc It := ⟨ic, 5, 110, fun _ => rfl, ic_one, by decide⟩
theorem infoIt : Info encIt := by
  have h : (Try.prog.info? 53).map (fun i => (i.zero, i.size, i.bytes)) = some (some (.agg #[.string ⟨#[]⟩, .int .i64 0, .string ⟨#[]⟩, .int .i64 0, .int .i64 0]), 5, 56) := by kernel_rfl
  obtain ⟨i, hi, hz⟩ := Option.map_eq_some_iff.1 h
  simp only [Prod.mk.injEq] at hz
  exact ⟨i, _, hi, hz.1, hz.2.1, by omega, rfl⟩
theorem sizeIt : (Try.prog.info? 53).map (·.size) = some 5 := by kernel_rfl
theorem sizeLi : (Try.prog.info? 110).map (·.size) = some 5 := by kernel_rfl
theorem zeroIt (w : World) : (zeroValue 53).run Try.prog w = .ok (.agg [Value.string ⟨#[]⟩, .int .i64 0, .string ⟨#[]⟩, .int .i64 0, .int .i64 0].toArray) w := Try.zeroValue53 w

/-- a thing lies in a block of its own: its five cells -/
theorem cells5 {w : World} {b : Nat} {t : TypeId} {v0 v1 v2 v3 v4 : Value} (h : VBlk w b t [v0, v1, v2, v3, v4]) :
    w.cell? ⟨b, 0, none⟩ = some v0 ∧ w.cell? ⟨b, 1, none⟩ = some v1 ∧ w.cell? ⟨b, 2, none⟩ = some v2 ∧ w.cell? ⟨b, 3, none⟩ = some v3 ∧ w.cell? ⟨b, 4, none⟩ = some v4 :=
  ⟨h.cell 0 (by simp), h.cell 1 (by simp), h.cell 2 (by simp), h.cell 3 (by simp), h.cell 4 (by simp)⟩
theorem froz5 {w : World} {b : Nat} {t : TypeId} {vs : List Value} (h : VBlk w b t vs) :
    w.frozen? ⟨b, 0, none⟩ = false ∧ w.frozen? ⟨b, 1, none⟩ = false ∧ w.frozen? ⟨b, 2, none⟩ = false ∧ w.frozen? ⟨b, 3, none⟩ = false ∧ w.frozen? ⟨b, 4, none⟩ = false :=
  ⟨h.frozen _, h.frozen _, h.frozen _, h.frozen _, h.frozen _⟩
/-- the thing at the place i of a row -/
theorem rd_item {E : Enc It} (hp : E.put = ic) (hk : E.k = 5) {w : World} {n cap : Nat} {a : Option Addr} {xs : List It} (r : Rd E w (.slice a n cap) xs) (i : Nat) (hi : i < xs.length) :
    ∃ b off, a = some ⟨b, off, none⟩ ∧ b < w.heap.size ∧ w.rangeAt b (off + i * 5) (ic xs[i]) := by
  obtain ⟨b, off, e, h1, h2⟩ := r.start (by omega)
  refine ⟨b, off, e, h1, fun j v hv => ?_⟩
  have hj : j < 5 := (List.getElem?_eq_some_iff.1 hv).1
  have := E.row_get xs i j hi (by rw [hk]; exact hj)
  rw [hk, hp, hv] at this
  have := h2 _ _ this
  rw [Nat.add_assoc]
  exact this
theorem rng5 {w : World} {b k : Nat} {v0 v1 v2 v3 v4 : Value} (h : w.rangeAt b k [v0, v1, v2, v3, v4]) :
    w.cell? ⟨b, k, none⟩ = some v0 ∧ w.cell? ⟨b, k + 1, none⟩ = some v1 ∧ w.cell? ⟨b, k + 2, none⟩ = some v2 ∧ w.cell? ⟨b, k + 3, none⟩ = some v3 ∧ w.cell? ⟨b, k + 4, none⟩ = some v4 :=
  ⟨h 0 _ rfl, h 1 _ rfl, h 2 _ rfl, h 3 _ rfl, h 4 _ rfl⟩

set_option maxHeartbeats 4000000 in
theorem specItemOk_any (N B : ByteArray) (F C U : Int) (y : Bool) (hy : Hid (itemB ⟨N, F, B, C, U⟩ = y)) (hN : N.size ≤ 9223372036854775807) (hB : B.size ≤ 9223372036854775807) (w : World) :
    Calls Try.prog 81 #[.agg #[.string N, .int .i64 F, .string B, .int .i64 C, .int .i64 U]] w fun e w' => e = .returned (.bool y) ∧ Below w.heap.size w w' := by
  obtain ⟨x1, h1⟩ := hid_ex (nameB N)
  obtain ⟨x2, h2⟩ := hid_ex (decide (0 ≤ F) && decide (F ≤ 65535))
  obtain ⟨x4, h4⟩ := hid_ex (decide (1 ≤ C) && decide (C ≤ 1000000))
  obtain ⟨x5, h5⟩ := hid_ex (decide (0 ≤ U) && decide (U ≤ 1000000))
  have hy2 : (x1 && x2 && decide ((B.size : Int) ≤ 64) && x4 && x5) = y := by rw [← h1.out, ← h2.out, ← h4.out, ← h5.out]; exact hy.out
  clear hy
  by_cases h3 : (B.size : Int) ≤ 64
  · rw [decide_eq_true h3] at hy2
    cases x1 <;> cases x2 <;> cases x4 <;> cases x5
    all_goals
      subst hy2
      go_enter Try.func81, Try.ntmps81
      have m1 : Hid True := trivial
      have m2 : Hid True := trivial
      have m3 : Hid True := trivial
      go_wp2_with (first | (refine wpList_box_v rfl 53 _ rfl [.string N, .int .i64 F, .string B, .int .i64 C, .int .i64 U] rfl ?_; intro b1 w1 hb1 hw1 hB1 V1; obtain ⟨c0, c1, c2, c3, c4⟩ := cells5 V1) | (go_at_call 25; refine (specNameOk_any _ hN _).mono ?_; rintro e wq ⟨rfl, hq⟩; subst wq; rw [h1.out]) | (clear m1; go_at_call 69; refine (in_is F 0 65535 _ h2.out _).mono ?_; rintro e wq ⟨rfl, hq⟩; subst wq) | (clear m2; go_at_call 69; refine (in_is C 1 1000000 _ h4.out _).mono ?_; rintro e wq ⟨rfl, hq⟩; subst wq) | (clear m3; go_at_call 69; refine (in_is U 0 1000000 _ h5.out _).mono ?_; rintro e wq ⟨rfl, hq⟩; subst wq) | (fail))
      go_ret
      exact ⟨rfl, hB1⟩
  · rw [decide_eq_false h3, Bool.and_false, Bool.false_and, Bool.false_and] at hy2
    cases x1 <;> cases x2
    all_goals
      subst hy2
      go_enter Try.func81, Try.ntmps81
      go_wp2_with (first | (refine wpList_box_v rfl 53 _ rfl [.string N, .int .i64 F, .string B, .int .i64 C, .int .i64 U] rfl ?_; intro b1 w1 hb1 hw1 hB1 V1; obtain ⟨c0, c1, c2, c3, c4⟩ := cells5 V1) | (go_at_call 25; refine (specNameOk_any _ hN _).mono ?_; rintro e wq ⟨rfl, hq⟩; subst wq; rw [h1.out]) | (go_at_call 69; refine (in_is F 0 65535 _ h2.out _).mono ?_; rintro e wq ⟨rfl, hq⟩; subst wq) | (fail))
      go_ret
      exact ⟨rfl, hB1⟩

theorem specOverAt_any (N B : ByteArray) (F C U now : Int) (y : Bool) (hy : Hid (overB ⟨N, F, B, C, U⟩ now = y)) (w : World) :
    Calls Try.prog 37 #[.agg #[.string N, .int .i64 F, .string B, .int .i64 C, .int .i64 U], .int .i64 now] w fun e w' => e = .returned (.bool y) ∧ Below w.heap.size w w' := by
  have h := hy.out
  clear hy
  unfold overB at h
  by_cases hu : U = 0
  · have hb : (U == 0) = true := by simpa using hu
    have hb' : (U != 0) = false := by simp [hu]
    rw [hb] at h
    clear hu
    subst h
    go_enter Try.func37, Try.ntmps37
    go_wp2_with (first | (refine wpList_box_v rfl 53 _ rfl [.string N, .int .i64 F, .string B, .int .i64 C, .int .i64 U] rfl ?_; intro b1 w1 hb1 hw1 hB1 V1; obtain ⟨c0, c1, c2, c3, c4⟩ := cells5 V1) | (fail))
    go_ret
    exact ⟨rfl, hB1⟩
  · have hb : (U == 0) = false := by simpa using hu
    have hb' : (U != 0) = true := by simp [hu]
    rw [hb] at h
    clear hu
    subst h
    go_enter Try.func37, Try.ntmps37
    go_wp2_with (first | (refine wpList_box_v rfl 53 _ rfl [.string N, .int .i64 F, .string B, .int .i64 C, .int .i64 U] rfl ?_; intro b1 w1 hb1 hw1 hB1 V1; obtain ⟨c0, c1, c2, c3, c4⟩ := cells5 V1) | (fail))
    go_ret
    exact ⟨by simp, hB1⟩
end Go.Proofs.Ytmnjmghlkiljhaa.rg
/- Contracts: the place of a text in a row, right names, right rings: the model's. -/
namespace Go.Proofs.Ytmnjmghlkiljhaa.rg
open Go.ChangeShapes Go.WideShapes Go.ChangeAt Go.RowKit
open Go.Proofs.Ytmnjmghlkiljhaa.ce Go.Proofs.Ytmnjmghlkiljhaa.ro
set_option linter.unusedVariables false

theorem l1At_any (N : List ByteArray) (s : ByteArray) (v : Value) (w : World) (r : Rd encS w v N) :
    Calls Try.prog 137 #[v, .string s] w fun e w' => e = .returned (.int .i64 (posS s N)) ∧ w' = w := by
  have hl := r.len
  obtain ⟨a, cap, rfl⟩ := r.form
  have R : Hid (Rd encS w (.slice a N.length cap) N) := r
  clear r
  obtain ⟨y, hy⟩ := hid_ex (posS s N)
  rw [hy.out]
  go_enter Try.func137, Try.ntmps137
  go_wp2
  go_loop [5] (fun p => ∃ i : Nat, i ≤ N.length ∧ p = .int .i64 i ∧ Hid (s ∉ N.take i)) (fun p => N.length - (intOf p).toNat)
  case atStart => exact ⟨0, by omega, rfl, (by unfold Hid; simp)⟩
  case round =>
    obtain ⟨i, hi1, rfl, hno⟩ := hrel
    by_cases hlt : i < N.length
    · obtain ⟨b, off, rfl, hb, d0⟩ := rdS_cell R.out i hlt
      have hlt' : (i : Int) < (N.length : Int) := by omega
      obtain ⟨z, hz⟩ := hid_ex (N[i])
      rw [hz.out] at d0
      by_cases he : z.toList = s.toList
      · have ey : y = i := by rw [← hy.out]; exact posS_at hlt (hz.out.trans (str_eq he)) hno.out
        subst ey
        have hbe : (z.toList == s.toList) = true := by simpa using he
        clear he
        go_wp2
        go_ret
        exact ⟨rfl, rfl⟩
      · have hno2 : Hid (s ∉ N.take (i + 1)) := by
          unfold Hid
          rw [List.take_succ_eq_append_getElem hlt, List.mem_append, hz.out, List.mem_singleton]
          rintro (h | h)
          · exact hno.out h
          · exact he (by rw [h])
        have hbe : (z.toList == s.toList) = false := by simpa using he
        clear he
        go_wp2
        go_round
        case rel => exact ⟨i + 1, by omega, by go_num, hno2⟩
        case measure => simp [intOf]; omega
    · have hlt' : ¬ (i : Int) < (N.length : Int) := by omega
      have ey : y = -1 := by
        have h := hno.out
        rw [List.take_of_length_le (by omega)] at h
        rw [← hy.out]; exact posS_no h
      subst ey
      go_wp2
      go_ret
      exact ⟨rfl, rfl⟩

theorem l8Names_any (N : List ByteArray) (v : Value) (w : World) (r : Rd encS w v N) (hs : ∀ s ∈ N, s.size ≤ 9223372036854775807) :
    Calls Try.prog 114 #[v] w fun e w' => e = .returned (.bool (namesB N)) ∧ w' = w := by
  have hl := r.len
  obtain ⟨a, cap, rfl⟩ := r.form
  have R : Hid (Rd encS w (.slice a N.length cap) N) := r
  have HS : Hid (∀ s ∈ N, s.size ≤ 9223372036854775807) := hs
  clear r hs
  obtain ⟨y, hy⟩ := hid_ex (namesB N)
  rw [hy.out]
  go_enter Try.func114, Try.ntmps114
  go_wp2
  go_loop [3] (fun p => ∃ i : Nat, i ≤ N.length ∧ p = .int .i64 i ∧ Hid (Pre N i)) (fun p => N.length - (intOf p).toNat)
  case atStart => exact ⟨0, by omega, rfl, pre_zero N⟩
  case round =>
    obtain ⟨i, hi1, rfl, hP⟩ := hrel
    by_cases hlt : i < N.length
    · obtain ⟨b, off, rfl, hb, d0⟩ := rdS_cell R.out i hlt
      have hlt' : (i : Int) < (N.length : Int) := by omega
      have hsz := HS.out N[i] (List.getElem_mem hlt)
      have hself := @posS_self N i hlt
      have hp1 := @pre_not1 N i hlt
      have hp2 := @pre_not2 N i hlt
      have hp3 := pre_succ hP.out hlt
      obtain ⟨z, hz⟩ := hid_ex (N[i])
      rw [hz.out] at d0 hsz hself hp1 hp2 hp3
      cases hn : nameB z with
      | false =>
        have ey : y = false := by rw [← hy.out]; exact hp1 hn
        subst ey
        clear hself hp1 hp2 hp3
        go_wp2_with (first | (go_at_call 25; refine (specNameOk_any _ hsz _).mono ?_; rintro e wq ⟨rfl, hq⟩; subst wq; rw [hn]) | (fail))
        go_ret
        exact ⟨rfl, rfl⟩
      | true =>
        obtain ⟨p, hp⟩ := hid_ex (posS z N)
        rw [hp.out] at hself
        by_cases he : p = i
        · have hP2 : Hid (Pre N (i + 1)) := hp3 hn (hself.1 he)
          have hne : ((p : Int) != (i : Int)) = false := by simpa using he
          clear hself hp1 hp2 hp3 he
          go_wp2_with (first | (go_at_call 25; refine (specNameOk_any _ hsz _).mono ?_; rintro e wq ⟨rfl, hq⟩; subst wq; rw [hn]) | (go_at_call 137; refine (l1At_any N _ _ _ R.out).mono ?_; rintro e wq ⟨rfl, hq⟩; subst wq; rw [hp.out]) | (fail))
          go_round
          case rel => exact ⟨i + 1, by omega, by go_num, hP2⟩
          case measure => simp [intOf]; omega
        · have ey : y = false := by
            rw [← hy.out]
            exact hp2 (Classical.byContradiction fun h => he (hself.2 h))
          subst ey
          have hne : ((p : Int) != (i : Int)) = true := by simpa using he
          clear hself hp1 hp2 hp3 he
          go_wp2_with (first | (go_at_call 25; refine (specNameOk_any _ hsz _).mono ?_; rintro e wq ⟨rfl, hq⟩; subst wq; rw [hn]) | (go_at_call 137; refine (l1At_any N _ _ _ R.out).mono ?_; rintro e wq ⟨rfl, hq⟩; subst wq; rw [hp.out]) | (fail))
          go_ret
          exact ⟨rfl, rfl⟩
    · have hlt' : ¬ (i : Int) < (N.length : Int) := by omega
      have hP2 := hP.out
      rw [show i = N.length by omega] at hP2
      have ey := (pre_all hP2).symm.trans hy.out
      clear hP2
      by_cases h20 : (N.length : Int) ≤ 20
      · rw [decide_eq_true h20] at ey
        subst ey
        go_wp2
        go_ret
        exact ⟨rfl, rfl⟩
      · rw [decide_eq_false h20] at ey
        subst ey
        go_wp2
        go_ret
        exact ⟨rfl, rfl⟩

/-- a ring is read -/
structure RdR (w : World) (vN vU : Value) (r : Rg) : Prop where
  n : Rd encS w vN r.N
  u : Rd encB w vU r.U
  s : ∀ s ∈ r.N, s.size ≤ 9223372036854775807
theorem RdR.grow {w w' : World} {vN vU : Value} {r : Rg} (h : RdR w vN vU r) (hb : Below w.heap.size w w') : RdR w' vN vU r := ⟨h.n.grow hb, h.u.grow hb, h.s⟩
/-- a ring is owned -/
structure OwnR (w : World) (lo hi : Nat) (vN vU : Value) (r : Rg) : Prop where
  n : Own encS w lo hi vN r.N
  u : Own encB w lo hi vU r.U
theorem OwnR.grow {w w' : World} {lo hi : Nat} {vN vU : Value} {r : Rg} (h : OwnR w lo hi vN vU r) (hb : Below w.heap.size w w') : OwnR w' lo hi vN vU r := ⟨h.n.grow hb, h.u.grow hb⟩
theorem OwnR.within {w w' : World} {lo hi l2 h2 : Nat} {vN vU : Value} {r : Rg} (h : OwnR w lo hi vN vU r) (hw : Within l2 h2 w w') (hd : hi ≤ l2 ∨ h2 ≤ lo) : OwnR w' lo hi vN vU r := ⟨h.n.within hw hd, h.u.within hw hd⟩
theorem OwnR.wide {w : World} {lo hi lo' hi' : Nat} {vN vU : Value} {r : Rg} (h : OwnR w lo hi vN vU r) (h1 : lo' ≤ lo) (h2 : hi ≤ hi') : OwnR w lo' hi' vN vU r := ⟨h.n.wide h1 h2, h.u.wide h1 h2⟩
theorem OwnR.top {w : World} {lo hi : Nat} {vN vU : Value} {r : Rg} (h : OwnR w lo hi vN vU r) : OwnR w lo w.heap.size vN vU r := ⟨h.n.top, h.u.top⟩
theorem OwnR.rd {w : World} {lo hi : Nat} {vN vU : Value} {r : Rg} (h : OwnR w lo hi vN vU r) (hs : ∀ s ∈ r.N, s.size ≤ 9223372036854775807) : RdR w vN vU r := ⟨h.n.rd, h.u.rd, hs⟩
theorem OwnR.only {w w' : World} {lo hi b : Nat} {vN vU : Value} {r : Rg} {t : TypeId} {vs : List Value} (h : OwnR w lo hi vN vU r) (ho : Only b w w') (hb : VBlk w b t vs) (h1 : 9 ≠ t) (h2 : 4 ≠ t) : OwnR w' lo hi vN vU r := ⟨h.n.only ho hb h1, h.u.only ho hb h2⟩
theorem ownR_zero (w : World) (lo hi : Nat) : OwnR w lo hi (.slice none 0 0) (.slice none 0 0) Rg.zero := ⟨own_zero _ _ _ _ _, own_zero _ _ _ _ _⟩
theorem sizeRg : (Try.prog.info? 27).map (·.size) = some 3 := by kernel_rfl
theorem zeroRg (w : World) : (zeroValue 27).run Try.prog w = .ok (.agg [Value.slice none 0 0, .slice none 0 0, .int .i64 0].toArray) w := Try.zeroValue27 w
theorem cells3 {w : World} {b : Nat} {t : TypeId} {u v x : Value} (h : VBlk w b t [u, v, x]) : w.cell? ⟨b, 0, none⟩ = some u ∧ w.cell? ⟨b, 1, none⟩ = some v ∧ w.cell? ⟨b, 2, none⟩ = some x := ⟨h.cell 0 (by simp), h.cell 1 (by simp), h.cell 2 (by simp)⟩
theorem cells2 {w : World} {b : Nat} {t : TypeId} {u v : Value} (h : VBlk w b t [u, v]) : w.cell? ⟨b, 0, none⟩ = some u ∧ w.cell? ⟨b, 1, none⟩ = some v := ⟨h.cell 0 (by simp), h.cell 1 (by simp)⟩

theorem specRingOk_any (r : Rg) (vN vU : Value) (w : World) (h : RdR w vN vU r) :
    Calls Try.prog 65 #[.agg #[vN, vU, .int .i64 r.A]] w fun e w' => e = .returned (.bool (ringB r)) ∧ Below w.heap.size w w' := by
  obtain ⟨N, U, A⟩ := r
  have hlN := h.n.len
  have hlU := h.u.len
  obtain ⟨a, cap, rfl⟩ := h.n.form
  obtain ⟨c, dc, rfl⟩ := h.u.form
  have R : Hid (RdR w (.slice a N.length cap) (.slice c U.length dc) ⟨N, U, A⟩) := h
  clear h
  dsimp only at hlN hlU ⊢
  obtain ⟨y, hy⟩ := hid_ex (ringB ⟨N, U, A⟩)
  rw [hy.out]
  replace hy : Hid ((namesB N && (U.length == N.length) && atB N.length A) = y) := hy
  have m1 : Hid True := trivial
  cases hn : namesB N with
  | false =>
    have ey : y = false := by rw [← hy.out, hn]; simp
    subst ey
    go_enter Try.func65, Try.ntmps65
    go_wp2_with (first | (clear m1; refine wpList_box_v rfl 27 _ rfl [.slice a N.length cap, .slice c U.length dc, .int .i64 A] rfl ?_; intro b1 w1 hb1 hw1 hB1 hV1; obtain ⟨c0, c1, c2⟩ := cells3 hV1) | (go_at_call 114; refine (l8Names_any N _ _ (R.out.grow hB1).n R.out.s).mono ?_; rintro e wq ⟨rfl, hq⟩; subst wq; rw [hn]) | (fail))
    go_ret
    exact ⟨rfl, hB1⟩
  | true =>
    by_cases hu : (U.length : Int) = (N.length : Int)
    · have hu1 : ((U.length : Int) == (N.length : Int)) = true := by simpa using hu
      have hu2 : (U.length == N.length) = true := by simp; omega
      by_cases h0 : (N.length : Int) = 0
      · have h01 : ((N.length : Int) == 0) = true := by simpa using h0
        by_cases hA : A = 0
        · have ey : y = true := by
            rw [← hy.out, hn, hu2]
            unfold atB
            rw [decide_eq_true (show 0 ≤ A by omega), decide_eq_true (by omega)]
            rfl
          subst ey
          have hA1 : (A == 0) = true := by simpa using hA
          clear hu hu2 h0 hA
          go_enter Try.func65, Try.ntmps65
          go_wp2_with (first | (clear m1; refine wpList_box_v rfl 27 _ rfl [.slice a N.length cap, .slice c U.length dc, .int .i64 A] rfl ?_; intro b1 w1 hb1 hw1 hB1 hV1; obtain ⟨c0, c1, c2⟩ := cells3 hV1) | (go_at_call 114; refine (l8Names_any N _ _ (R.out.grow hB1).n R.out.s).mono ?_; rintro e wq ⟨rfl, hq⟩; subst wq; rw [hn]) | (fail))
          go_ret
          exact ⟨rfl, hB1⟩
        · have hA1 : (A == 0) = false := by simpa using hA
          have hin : Hid ((decide (0 ≤ A) && decide (A ≤ (N.length : Int) - 1)) = y) := by
            unfold Hid
            rw [← hy.out, hn, hu2]
            unfold atB
            by_cases q : 0 ≤ A
            · rw [decide_eq_true q, decide_eq_false (show ¬ A ≤ (N.length : Int) - 1 by omega), decide_eq_false (by omega)]
              rfl
            · rw [decide_eq_false q]
              rfl
          clear hu hu2 h0 hA
          go_enter Try.func65, Try.ntmps65
          go_wp2_with (first | (clear m1; refine wpList_box_v rfl 27 _ rfl [.slice a N.length cap, .slice c U.length dc, .int .i64 A] rfl ?_; intro b1 w1 hb1 hw1 hB1 hV1; obtain ⟨c0, c1, c2⟩ := cells3 hV1) | (go_at_call 114; refine (l8Names_any N _ _ (R.out.grow hB1).n R.out.s).mono ?_; rintro e wq ⟨rfl, hq⟩; subst wq; rw [hn]) | (go_at_call 69; refine (in_is _ _ _ y hin.out _).mono ?_; rintro e wq ⟨rfl, hq⟩; subst wq) | (fail))
          go_ret
          exact ⟨rfl, hB1⟩
      · have h01 : ((N.length : Int) == 0) = false := by simpa using h0
        have hin : Hid ((decide (0 ≤ A) && decide (A ≤ (N.length : Int) - 1)) = y) := by
          unfold Hid
          rw [← hy.out, hn, hu2]
          unfold atB
          rw [show decide (A ≤ (N.length : Int) - 1) = decide (A < max (N.length : Int) 1) from decide_eq_decide.2 (by omega)]
          simp
        clear hu hu2 h0
        go_enter Try.func65, Try.ntmps65
        go_wp2_with (first | (clear m1; refine wpList_box_v rfl 27 _ rfl [.slice a N.length cap, .slice c U.length dc, .int .i64 A] rfl ?_; intro b1 w1 hb1 hw1 hB1 hV1; obtain ⟨c0, c1, c2⟩ := cells3 hV1) | (go_at_call 114; refine (l8Names_any N _ _ (R.out.grow hB1).n R.out.s).mono ?_; rintro e wq ⟨rfl, hq⟩; subst wq; rw [hn]) | (go_at_call 69; refine (in_is _ _ _ y hin.out _).mono ?_; rintro e wq ⟨rfl, hq⟩; subst wq) | (fail))
        go_ret
        exact ⟨rfl, hB1⟩
    · have hu1 : ((U.length : Int) == (N.length : Int)) = false := by simpa using hu
      have ey : y = false := by
        rw [← hy.out, show (U.length == N.length) = false by simp; omega]
        simp
      subst ey
      clear hu
      go_enter Try.func65, Try.ntmps65
      go_wp2_with (first | (clear m1; refine wpList_box_v rfl 27 _ rfl [.slice a N.length cap, .slice c U.length dc, .int .i64 A] rfl ?_; intro b1 w1 hb1 hw1 hB1 hV1; obtain ⟨c0, c1, c2⟩ := cells3 hV1) | (go_at_call 114; refine (l8Names_any N _ _ (R.out.grow hB1).n R.out.s).mono ?_; rintro e wq ⟨rfl, hq⟩; subst wq; rw [hn]) | (fail))
      go_ret
      exact ⟨rfl, hB1⟩
end Go.Proofs.Ytmnjmghlkiljhaa.rg
/- Contracts of the laws' helpers on rows of texts and of truths: sizes, copies, comparisons, marks. -/
namespace Go.Proofs.Ytmnjmghlkiljhaa.rg
open Go.ChangeShapes Go.WideShapes Go.ChangeAt Go.RowKit
open Go.Proofs.Ytmnjmghlkiljhaa.ce Go.Proofs.Ytmnjmghlkiljhaa.ro
set_option linter.unusedVariables false

theorem eqTexts_any (xs : List ByteArray) (v v' : Value) (w : World) (r : Rd encS w v xs) (r' : Rd encS w v' xs) :
    Calls Try.prog 41 #[v, v'] w fun e w' => e = .returned (.bool true) ∧ Below w.heap.size w w' := by
  have hl := r.len
  obtain ⟨a, cap, rfl⟩ := r.form
  obtain ⟨a', cap', rfl⟩ := r'.form
  have R : Hid (Rd encS w (.slice a xs.length cap) xs) := r
  have R' : Hid (Rd encS w (.slice a' xs.length cap') xs) := r'
  clear r r'
  have hnn : ((xs.length : Int) != (xs.length : Int)) = false := by simp
  go_enter Try.func41, Try.ntmps41
  go_wp2
  go_loopw [5] (fun v' wr => ∃ i : Nat, i ≤ xs.length ∧ v' = .int .i64 i ∧ Below w.heap.size w wr) (fun v' _ => xs.length - (intOf v').toNat)
  case atStart => exact ⟨0, by omega, rfl, Below.refl _ _⟩
  case round =>
    obtain ⟨i, hi1, rfl, hBr⟩ := hrel
    by_cases hlt : i < xs.length
    · obtain ⟨b, off, rfl, hb, d0⟩ := rdS_cell (R.out.grow hBr) i hlt
      obtain ⟨b', off', rfl, hb', e0⟩ := rdS_cell (R'.out.grow hBr) i hlt
      obtain ⟨z, hz⟩ := hid_ex (xs[i])
      rw [hz.out] at d0 e0
      have hlt' : (i : Int) < xs.length := by omega
      have hzz : (z.toList == z.toList) = true := by simp
      go_wp2
      go_region_held3 (fun w' => w'.cell? ⟨b, off + i, none⟩ = some (.string z) ∧ w'.cell? ⟨b', off' + i, none⟩ = some (.string z)) (first | assumption | exact ⟨d0, e0⟩) (fail)
      go_wp2
      go_roundw
      case rel => exact ⟨i + 1, by omega, by go_num, hBr.drew⟩
      case measure => simp [intOf]; omega
    · go_wp2
      go_ret
      exact ⟨rfl, hBr⟩

theorem likeTexts_any (xs : List ByteArray) (v v' : Value) (w : World) (r : Rd encS w v xs) (r' : Rd encS w v' xs) :
    Calls Try.prog 20 #[v, v'] w fun e w' => e = .returned (.bool true) ∧ Below w.heap.size w w' := by
  have hl := r.len
  obtain ⟨a, cap, rfl⟩ := r.form
  obtain ⟨a', cap', rfl⟩ := r'.form
  have R : Hid (Rd encS w (.slice a xs.length cap) xs) := r
  have R' : Hid (Rd encS w (.slice a' xs.length cap') xs) := r'
  clear r r'
  have hnn : ((xs.length : Int) != (xs.length : Int)) = false := by simp
  go_enter Try.func20, Try.ntmps20
  go_wp2
  go_loopw [5] (fun v' wr => ∃ i : Nat, i ≤ xs.length ∧ v' = .int .i64 i ∧ Below w.heap.size w wr) (fun v' _ => xs.length - (intOf v').toNat)
  case atStart => exact ⟨0, by omega, rfl, Below.refl _ _⟩
  case round =>
    obtain ⟨i, hi1, rfl, hBr⟩ := hrel
    by_cases hlt : i < xs.length
    · obtain ⟨b, off, rfl, hb, d0⟩ := rdS_cell (R.out.grow hBr) i hlt
      obtain ⟨b', off', rfl, hb', e0⟩ := rdS_cell (R'.out.grow hBr) i hlt
      obtain ⟨z, hz⟩ := hid_ex (xs[i])
      rw [hz.out] at d0 e0
      have hlt' : (i : Int) < xs.length := by omega
      have hzz : (z.toList == z.toList) = true := by simp
      go_wp2
      go_region_held3 (fun w' => w'.cell? ⟨b, off + i, none⟩ = some (.string z) ∧ w'.cell? ⟨b', off' + i, none⟩ = some (.string z)) (first | assumption | exact ⟨d0, e0⟩) (fail)
      go_wp2
      go_roundw
      case rel => exact ⟨i + 1, by omega, by go_num, hBr.drew⟩
      case measure => simp [intOf]; omega
    · go_wp2
      go_ret
      exact ⟨rfl, hBr⟩

theorem wpList_make_string {o : Oper} {a : Act} {w : World} {ops : Array Oper} {rest : List Oper} {Q : Exit → Act → World → Prop} (hgd : o.guard = none) (l c : Operand) (t : TypeId) (ho : o.op = .makeSlice t l c) (ht : Try.prog.underlying t = some (.slice 9)) (n : Nat) (hn : n ≤ 1048576) (hl : a.eval l = .int .i64 n) (hc : a.eval c = .int .i64 n)
    (h : ∀ b w', w.heap.size ≤ b → b < w'.heap.size → Below w.heap.size w w' → Own encS w' w.heap.size w'.heap.size (.slice (some ⟨b, 0, none⟩) n n) (List.replicate n (⟨#[]⟩ : ByteArray)) → wpList Try.prog ops Q rest (a.put o.dst (.slice (some ⟨b, 0, none⟩) n n)) w') : wpList Try.prog ops Q (o :: rest) a w := by
  have hi : (Try.prog.info? 9).map (fun i => (i.zero, i.size, i.bytes ≤ 16)) = some (some (Value.string ⟨#[]⟩), 1, True) := by
    obtain ⟨i, z, h1, h2, h3, h4, h5⟩ := infoS.ex
    have : Try.prog.info? 9 = some i := h1
    have hh : (Try.prog.info? 9).map (fun i => (i.zero, i.size, decide (i.bytes ≤ 16))) = some (some (Value.string ⟨#[]⟩), 1, true) := by kernel_rfl
    rw [this] at hh ⊢
    simp at hh ⊢
    exact hh
  obtain ⟨i0, hi0, hz⟩ := Option.map_eq_some_iff.1 hi
  simp only [Prod.mk.injEq, eq_iff_iff, iff_true] at hz
  refine wpList_make_full _ hgd l c t ho w.heap.size 9 i0 _ 1 ht hi0 hz.1 hz.2.1 .i64 .i64 n n n hl hc rfl rfl (by have h3 := hz.2.2; have := Nat.mul_le_mul h3 hn; omega) (by unfold maxLen; omega) (Nat.le_refl _) ?_
  intro w1 h1 h2
  have hb : Below w.heap.size w w1 := ro.below_grown h2 (Nat.le_refl _) (fun k hk => by cases hk)
  refine h _ w1 (Nat.le_refl _) (h1.lt _ rfl).2 hb (own_of ?_)
  have hr : (madeCells (Value.cells (Value.string ⟨#[]⟩)) (n * 1)).toList = encS.row (List.replicate n (⟨#[]⟩ : ByteArray)) := by
    rw [Enc.row_replicate encS (⟨#[]⟩ : ByteArray) n (Value.string ⟨#[]⟩) rfl]
    simp [Value.cells, toList_madeCells_one]
  rw [hr] at h1
  rw [List.length_replicate]
  exact h1

theorem wpList_make_bool {o : Oper} {a : Act} {w : World} {ops : Array Oper} {rest : List Oper} {Q : Exit → Act → World → Prop} (hgd : o.guard = none) (l c : Operand) (t : TypeId) (ho : o.op = .makeSlice t l c) (ht : Try.prog.underlying t = some (.slice 4)) (n : Nat) (hn : n ≤ 1048576) (hl : a.eval l = .int .i64 n) (hc : a.eval c = .int .i64 n)
    (h : ∀ b w', w.heap.size ≤ b → b < w'.heap.size → Below w.heap.size w w' → Own encB w' w.heap.size w'.heap.size (.slice (some ⟨b, 0, none⟩) n n) (List.replicate n false) → wpList Try.prog ops Q rest (a.put o.dst (.slice (some ⟨b, 0, none⟩) n n)) w') : wpList Try.prog ops Q (o :: rest) a w := by
  have hi : (Try.prog.info? 4).map (fun i => (i.zero, i.size, i.bytes ≤ 16)) = some (some (Value.bool false), 1, True) := by
    obtain ⟨i, z, h1, h2, h3, h4, h5⟩ := infoB.ex
    have : Try.prog.info? 4 = some i := h1
    have hh : (Try.prog.info? 4).map (fun i => (i.zero, i.size, decide (i.bytes ≤ 16))) = some (some (Value.bool false), 1, true) := by kernel_rfl
    rw [this] at hh ⊢
    simp at hh ⊢
    exact hh
  obtain ⟨i0, hi0, hz⟩ := Option.map_eq_some_iff.1 hi
  simp only [Prod.mk.injEq, eq_iff_iff, iff_true] at hz
  refine wpList_make_full _ hgd l c t ho w.heap.size 4 i0 _ 1 ht hi0 hz.1 hz.2.1 .i64 .i64 n n n hl hc rfl rfl (by have h3 := hz.2.2; have := Nat.mul_le_mul h3 hn; omega) (by unfold maxLen; omega) (Nat.le_refl _) ?_
  intro w1 h1 h2
  have hb : Below w.heap.size w w1 := ro.below_grown h2 (Nat.le_refl _) (fun k hk => by cases hk)
  refine h _ w1 (Nat.le_refl _) (h1.lt _ rfl).2 hb (own_of ?_)
  have hr : (madeCells (Value.cells (Value.bool false)) (n * 1)).toList = encB.row (List.replicate n false) := by
    rw [Enc.row_replicate encB false n (Value.bool false) rfl]
    simp [Value.cells, toList_madeCells_one]
  rw [hr] at h1
  rw [List.length_replicate]
  exact h1

end Go.Proofs.Ytmnjmghlkiljhaa.rg
