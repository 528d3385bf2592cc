/- Rows of integers in memory, and what the operations on whole arrays do to them. -/
import Derived.Test.YtgdoclaifnnpgaaRows
import Derived.WalkKit
import Derived.ProofKit
import Derived.OpenShut
import Derived.Below
import Derived.Deep.MidRow
import Derived.Deep.OwnRows
namespace Go.Proofs.Ytgdoclaifnnpgaa.sk
open Go.ChangeShapes Go.WideShapes Go.ChangeAt Go.RowKit
set_option linter.unusedVariables false

/-- integers as cells -/
def ints (xs : List Int) : List Value := xs.map (Value.int .i64)
abbrev arr (xs : List Int) : Value := .agg (ints xs).toArray
theorem ints_len (xs : List Int) : (ints xs).length = xs.length := by simp [ints]
theorem ints_size (xs : List Int) : (ints xs).toArray.size = xs.length := by simp [ints]
theorem ints_get (xs : List Int) (i : Nat) : (ints xs)[i]? = xs[i]?.map (Value.int .i64) := by simp [ints]
theorem ints_one (xs : List Int) : ∀ v ∈ ints xs, v.oneCell' = true := by
  intro v hv
  obtain ⟨x, -, rfl⟩ := List.mem_map.1 hv
  rfl
theorem ints_set (xs : List Int) (i : Nat) (x : Int) : (ints xs).set i (.int .i64 x) = ints (xs.set i x) := by simp [ints, List.map_set]

/-- block b is a row of integers, not frozen -/
def Blk (w : World) (b : Nat) (t : TypeId) (xs : List Int) : Prop := w.heap[b]? = some (.cells (ints xs).toArray t (0, 0))

theorem Blk.range {w : World} {b : Nat} {t : TypeId} {xs : List Int} (h : Blk w b t xs) (o : Nat) : w.rangeAt b o (ints (xs.drop o)) := fun j v hv => by
  rw [cell_of_row _ _ _ _ _ _ h]
  rw [ints_get, List.getElem?_drop] at hv
  simpa [ints] using hv
theorem Blk.range0 {w : World} {b : Nat} {t : TypeId} {xs : List Int} (h : Blk w b t xs) : w.rangeAt b 0 (ints xs) := by
  have := h.range 0
  simpa using this
theorem Blk.there {w : World} {b : Nat} {t : TypeId} {xs : List Int} (h : Blk w b t xs) (o n : Nat) (hn : o + n ≤ xs.length) : w.there b o n := fun j hj =>
  ⟨by rw [cell_of_row _ _ _ _ _ _ h]; simp [ints]; omega, frozen_of_row _ _ _ _ _ h⟩
theorem Blk.frozen {w : World} {b : Nat} {t : TypeId} {xs : List Int} (h : Blk w b t xs) (j : Nat) : w.frozen? ⟨b, j, none⟩ = false := frozen_of_row _ _ _ _ _ h
theorem Blk.cell {w : World} {b : Nat} {t : TypeId} {xs : List Int} (h : Blk w b t xs) (j : Nat) (hj : j < xs.length) : w.cell? ⟨b, j, none⟩ = some (.int .i64 xs[j]) := by
  rw [cell_of_row _ _ _ _ _ _ h]; simp [ints, hj]
theorem Blk.lt {w : World} {b : Nat} {t : TypeId} {xs : List Int} (h : Blk w b t xs) : b < w.heap.size := (Array.getElem?_eq_some_iff.1 h).1
theorem Blk.set {w : World} {b : Nat} {t : TypeId} {xs : List Int} (h : Blk w b t xs) (i : Nat) (x : Int) : Blk (w.setCell ⟨b, i, none⟩ (.int .i64 x)) b t (xs.set i x) := by
  unfold Blk
  rw [heap_setCell_same w b i _ t _ h]
  simp [← ints_set]
theorem Blk.of {w w' : World} {b : Nat} {t : TypeId} {xs : List Int} (h : Blk w b t xs) (e : w'.heap[b]? = w.heap[b]?) : Blk w' b t xs := by
  unfold Blk; rw [e]; exact h
theorem Blk.new (w : World) (t : TypeId) (xs : List Int) : Blk (w.alloc (.cells (ints xs).toArray t)) w.heap.size t xs := heap_alloc_new _ _
theorem Blk.alloc {w : World} {b : Nat} {t : TypeId} {xs : List Int} (h : Blk w b t xs) (o : Obj) : Blk (w.alloc o) b t xs := h.of (Below.heap_alloc _ _ _ h.lt)
theorem Blk.drew {w : World} {b : Nat} {t : TypeId} {xs : List Int} (h : Blk w b t xs) : Blk w.drew b t xs := h
theorem Blk.below {w w' : World} {B b : Nat} {t : TypeId} {xs : List Int} (h : Blk w b t xs) (hb : Below B w w') (hlt : b < B) : Blk w' b t xs := h.of (hb.block b hlt)


section laws
variable {P : Program} {ops : Array Oper} {rest : List Oper} {o : Oper} {a : Act} {w : World} {Q : Exit → Act → World → Prop}

theorem wpList_val (hgd : o.guard = none) {v : Value} {w' : World} (hr : (execOp a.eval o).run P w = .ok (.value v) w') (h : wpList P ops Q rest (a.put o.dst v) w') : wpList P ops Q (o :: rest) a w :=
  wpList_plain hgd fun K hK => by unfold Oper.wp; rw [hr]; exact hK _ _ h
theorem wpList_act (hgd : o.guard = none) {w' : World} (hr : (execOp a.eval o).run P w = .ok .skip w') (h : wpList P ops Q rest (a.put o.dst undef) w') : wpList P ops Q (o :: rest) a w :=
  wpList_plain hgd fun K hK => by unfold Oper.wp; rw [hr]; exact hK _ _ h

/-- a new variable that holds an array -/
theorem wpList_box_arr (hgd : o.guard = none) (t : TypeId) (x : Operand) (ho : o.op = .box t x) (xs : List Int) (hx : a.eval x = arr xs)
    (h : ∀ (b : Nat) (w' : World), w.heap.size ≤ b → b < w'.heap.size → Below w.heap.size w w' → Blk w' b t xs → wpList P ops Q rest (a.put o.dst (.pointer (some ⟨b, 0, none⟩))) w') : wpList P ops Q (o :: rest) a w := by
  refine wpList_val hgd (v := .pointer (some ⟨w.heap.size, 0, none⟩)) (w' := w.alloc (.cells (ints xs).toArray t)) ?_ (h _ _ (Nat.le_refl _) (by simp) ((Below.refl _ _).alloc (Nat.le_refl _) _) (Blk.new _ _ _))
  unfold execOp
  simp only [ho, hx]
  rfl
/-- a new array, all zero -/
theorem wpList_alloc_arr (hgd : o.guard = none) (t : TypeId) (ho : o.op = .alloc t) (xs : List Int) (hz : ∀ w, (zeroValue t).run P w = .ok (arr xs) w)
    (h : ∀ (b : Nat) (w' : World), w.heap.size ≤ b → b < w'.heap.size → Below w.heap.size w w' → Blk w' b t xs → wpList P ops Q rest (a.put o.dst (.pointer (some ⟨b, 0, none⟩))) w') : wpList P ops Q (o :: rest) a w := by
  refine wpList_val hgd (v := .pointer (some ⟨w.heap.size, 0, none⟩)) (w' := w.alloc (.cells (ints xs).toArray t)) ?_ (h _ _ (Nat.le_refl _) (by simp) ((Below.refl _ _).alloc (Nat.le_refl _) _) (Blk.new _ _ _))
  unfold execOp
  simp only [ho, Instr.alloc, Sem.run_bind, hz, Result.andThen_ok]
  rfl

theorem ints_drop_take (xs : List Int) (k n : Nat) : ints ((xs.drop k).take n) = ((ints xs).drop k).take n := by simp [ints]
theorem range_take {w : World} {b o : Nat} {xs : List Int} (h : w.rangeAt b o (ints xs)) (n : Nat) : w.rangeAt b o (ints (xs.take n)) := fun j v hv => by
  refine h j v ?_
  simp only [ints, List.map_take] at hv
  rw [List.getElem?_take] at hv
  split at hv
  · exact hv
  · cases hv

/-- an array is loaded out of a row -/
theorem wpList_load_arr (hgd : o.guard = none) (t : TypeId) (x : Operand) (ho : o.op = .load t x) (b k n : Nat) (hx : a.eval x = .pointer (some ⟨b, k, none⟩)) (d : TypeDesc) (hu : P.underlying t = some d) (hd : d.isRow = true)
    (hi : (P.info? t).map (·.size) = some n) {t' : TypeId} {xs : List Int} (hb : Blk w b t' xs) (hn : k + n ≤ xs.length) (ys : List Int) (hys : ys = (xs.drop k).take n)
    (h : wpList P ops Q rest (a.put o.dst (arr ys)) w) : wpList P ops Q (o :: rest) a w := by
  subst hys
  exact wpList_load_mid hgd t x ho b k hx (ints ((xs.drop k).take n)) d (range_take (hb.range k) n) hu hd (by rw [hi, ints_len]; simp; omega) h

/-- what a row holds behind a store of a piece -/
def put (xs ys : List Int) (k : Nat) : List Int := xs.take k ++ ys ++ xs.drop (k + ys.length)
theorem put_len (xs ys : List Int) (k : Nat) (h : k + ys.length ≤ xs.length) : (put xs ys k).length = xs.length := by simp [put]; omega
theorem put_all (xs ys : List Int) (h : xs.length = ys.length) : put xs ys 0 = ys := by simp [put, ← h]

theorem heap_setCells (b : Nat) (t : TypeId) : ∀ (vs : List Value) (k : Nat) (w : World) (cs : List Value), w.heap[b]? = some (.cells cs.toArray t (0, 0)) → k + vs.length ≤ cs.length →
    (w.setCells b k vs).heap[b]? = some (.cells (cs.take k ++ vs ++ cs.drop (k + vs.length)).toArray t (0, 0))
  | [], k, w, cs, h, hk => by simpa [World.setCells] using h
  | v :: r, k, w, cs, h, hk => by
    have h1 := heap_setCell_same w b k cs.toArray t v h
    have hk' : k < cs.length := by simp at hk; omega
    have ih := heap_setCells b t r (k + 1) (w.setCell ⟨b, k, none⟩ v) (cs.set k v) (by rw [h1]; simp) (by simp at hk ⊢; omega)
    rw [World.setCells, ih]
    congr 3
    rw [List.take_succ_eq_append_getElem (by simpa using hk'), List.getElem_set_self, List.take_set_of_le (Nat.le_refl _), List.drop_set_of_lt (by omega)]
    simp [Nat.add_comm, Nat.add_left_comm]
theorem heap_setCells_other (b : Nat) : ∀ (vs : List Value) (k : Nat) (w : World) (j : Nat), j ≠ b → (w.setCells b k vs).heap[j]? = w.heap[j]?
  | [], _, _, _, _ => rfl
  | v :: r, k, w, j, h => by rw [World.setCells, heap_setCells_other b r (k + 1) _ j h]; exact Below.heap_setCell _ _ _ _ h
theorem meta_setCells (b : Nat) : ∀ (vs : List Value) (k : Nat) (w : World), (w.setCells b k vs).os = w.os ∧ (w.setCells b k vs).tape = w.tape ∧ (w.setCells b k vs).output = w.output ∧ (w.setCells b k vs).heap.size = w.heap.size
  | [], _, _ => ⟨rfl, rfl, rfl, rfl⟩
  | v :: r, k, w => by
    rw [World.setCells]
    have ih := meta_setCells b r (k + 1) (w.setCell ⟨b, k, none⟩ v)
    exact ⟨ih.1, ih.2.1, ih.2.2.1, by rw [ih.2.2.2]; simp⟩
theorem below_setCells {B b : Nat} (w : World) (hb : B ≤ b) (vs : List Value) (k : Nat) : Below B w (w.setCells b k vs) :=
  have m := meta_setCells b vs k w
  ⟨m.1, m.2.1, m.2.2.1, by rw [m.2.2.2]; exact Nat.le_refl _, fun j hj => heap_setCells_other b vs k w j (by omega)⟩
theorem Blk.setCells {w : World} {b : Nat} {t : TypeId} {xs : List Int} (h : Blk w b t xs) (ys : List Int) (k : Nat) (hk : k + ys.length ≤ xs.length) : Blk (w.setCells b k (ints ys)) b t (put xs ys k) := by
  unfold Blk
  rw [heap_setCells b t (ints ys) k w (ints xs) h (by simpa [ints_len] using hk)]
  simp [ints, put]

/-- only block b is turned -/
def Only (b : Nat) (w w' : World) : Prop := w'.heap.size = w.heap.size ∧ (∀ j, j ≠ b → w'.heap[j]? = w.heap[j]?) ∧ ∀ B, B ≤ b → Below B w w'
theorem only_setCells (w : World) (b : Nat) (vs : List Value) (k : Nat) : Only b w (w.setCells b k vs) := ⟨(meta_setCells b vs k w).2.2.2, heap_setCells_other b vs k w, fun B hB => below_setCells w hB vs k⟩

/-- an array is stored into a row -/
theorem wpList_store_arr (hgd : o.guard = none) (t : TypeId) (x y : Operand) (ho : o.op = .store t x y) (b k : Nat) (ys : List Int) (hx : a.eval x = .pointer (some ⟨b, k, none⟩)) (hy : a.eval y = arr ys)
    (hi : (P.info? t).map (·.size) = some ys.length) {t' : TypeId} {xs : List Int} (hb : Blk w b t' xs) (hn : k + ys.length ≤ xs.length)
    (h : ∀ w', Only b w w' → Blk w' b t' (put xs ys k) → wpList P ops Q rest (a.put o.dst undef) w') : wpList P ops Q (o :: rest) a w := by
  refine wpList_store_mid hgd t x y ho b k (ints ys).toArray hx hy ?_ (by rw [hi, ints_size]) (all_oneCell_toArray (ints_one ys)) ?_
  · rw [ints_size]; exact hb.there k ys.length hn
  · exact h _ (only_setCells _ _ _ _) (hb.setCells ys k hn)
end laws

end Go.Proofs.Ytgdoclaifnnpgaa.sk
