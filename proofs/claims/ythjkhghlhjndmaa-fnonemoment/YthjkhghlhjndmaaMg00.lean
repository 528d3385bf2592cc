/- Texts laid together: CeOps Ce1 Ce2 Ce3. -/
import Derived.Test.YthjkhghlhjndmaaRows
import Derived.WalkKit
import Derived.ProofKit
import Derived.OpenShut
import Derived.Below
import Derived.OwnWalk
import Derived.ArgAppend
import Derived.Deep.MidRow
import Derived.Deep.OwnRows
import Derived.Deep.RegionHeld3
import Derived.Deep.RegionLaw
import Derived.BigQuiet
/- Structs in memory: what the operations on whole structs do, each with a new letter for the world. -/
namespace Go.Proofs.Ythjkhghlhjndmaa.ce
open Go.ChangeShapes Go.WideShapes Go.ChangeAt Go.RowKit
set_option linter.unusedVariables false

/-- block b is a row of cells, none frozen -/
def VBlk (w : World) (b : Nat) (t : TypeId) (vs : List Value) : Prop := w.heap[b]? = some (.cells vs.toArray t (0, 0))
theorem VBlk.cell {w : World} {b : Nat} {t : TypeId} {vs : List Value} (h : VBlk w b t vs) (j : Nat) (hj : j < vs.length) : w.cell? ⟨b, j, none⟩ = some vs[j] := by
  rw [cell_of_row _ _ _ _ _ _ h]; simp [hj]
theorem VBlk.frozen {w : World} {b : Nat} {t : TypeId} {vs : List Value} (h : VBlk w b t vs) (j : Nat) : w.frozen? ⟨b, j, none⟩ = false := frozen_of_row _ _ _ _ _ h
theorem VBlk.lt {w : World} {b : Nat} {t : TypeId} {vs : List Value} (h : VBlk w b t vs) : b < w.heap.size := (Array.getElem?_eq_some_iff.1 h).1
theorem VBlk.of {w w' : World} {b : Nat} {t : TypeId} {vs : List Value} (h : VBlk w b t vs) (e : w'.heap[b]? = w.heap[b]?) : VBlk w' b t vs := by unfold VBlk; rw [e]; exact h
theorem VBlk.below {w w' : World} {B b : Nat} {t : TypeId} {vs : List Value} (h : VBlk w b t vs) (hb : Below B w w') (hlt : b < B) : VBlk w' b t vs := h.of (hb.block b hlt)
theorem VBlk.set {w : World} {b : Nat} {t : TypeId} {vs : List Value} (h : VBlk w b t vs) (i : Nat) (x : Value) : VBlk (w.setCell ⟨b, i, none⟩ x) b t (vs.set i x) := by
  unfold VBlk
  rw [heap_setCell_same w b i _ t _ h]
  simp
theorem VBlk.there {w : World} {b : Nat} {t : TypeId} {vs : List Value} (h : VBlk w b t vs) : w.there b 0 vs.length := fun j hj =>
  ⟨by simp only [Nat.zero_add]; rw [h.cell j hj]; rfl, by simp only [Nat.zero_add]; exact h.frozen j⟩
theorem VBlk.range {w : World} {b : Nat} {t : TypeId} {vs : List Value} (h : VBlk w b t vs) : w.rangeAt b 0 vs := fun j v hv => by
  rw [cell_of_row _ _ _ _ _ _ h]; simpa using hv
theorem VBlk.drew {w : World} {b : Nat} {t : TypeId} {vs : List Value} (h : VBlk w b t vs) : VBlk w.drew b t vs := h

theorem heap_setCells (b : Nat) (t : TypeId) : ∀ (vs : List Value) (k : Nat) (w : World) (cs : List Value), w.heap[b]? = some (.cells cs.toArray t (0, 0)) → k + vs.length ≤ cs.length →
    (w.setCells b k vs).heap[b]? = some (.cells (cs.take k ++ vs ++ cs.drop (k + vs.length)).toArray t (0, 0))
  | [], k, w, cs, h, hk => by simpa [World.setCells] using h
  | v :: r, k, w, cs, h, hk => by
    have h1 := heap_setCell_same w b k cs.toArray t v h
    have hk' : k < cs.length := by simp at hk; omega
    have ih := heap_setCells b t r (k + 1) (w.setCell ⟨b, k, none⟩ v) (cs.set k v) (by rw [h1]; simp) (by simp at hk ⊢; omega)
    rw [World.setCells, ih]
    congr 3
    rw [List.take_succ_eq_append_getElem (by simpa using hk'), List.getElem_set_self, List.take_set_of_le (Nat.le_refl _), List.drop_set_of_lt (by omega)]
    simp [Nat.add_comm, Nat.add_left_comm]
theorem heap_setCells_other (b : Nat) : ∀ (vs : List Value) (k : Nat) (w : World) (j : Nat), j ≠ b → (w.setCells b k vs).heap[j]? = w.heap[j]?
  | [], _, _, _, _ => rfl
  | v :: r, k, w, j, h => by rw [World.setCells, heap_setCells_other b r (k + 1) _ j h]; exact Below.heap_setCell _ _ _ _ h
theorem meta_setCells (b : Nat) : ∀ (vs : List Value) (k : Nat) (w : World), (w.setCells b k vs).os = w.os ∧ (w.setCells b k vs).tape = w.tape ∧ (w.setCells b k vs).output = w.output ∧ (w.setCells b k vs).heap.size = w.heap.size
  | [], _, _ => ⟨rfl, rfl, rfl, rfl⟩
  | v :: r, k, w => by
    rw [World.setCells]
    have ih := meta_setCells b r (k + 1) (w.setCell ⟨b, k, none⟩ v)
    exact ⟨ih.1, ih.2.1, ih.2.2.1, by rw [ih.2.2.2]; simp⟩
theorem below_setCells {B b : Nat} (w : World) (hb : B ≤ b) (vs : List Value) (k : Nat) : Below B w (w.setCells b k vs) :=
  have m := meta_setCells b vs k w
  ⟨m.1, m.2.1, m.2.2.1, by rw [m.2.2.2]; exact Nat.le_refl _, fun j hj => heap_setCells_other b vs k w j (by omega)⟩
/-- only block b is turned -/
def Only (b : Nat) (w w' : World) : Prop := w'.heap.size = w.heap.size ∧ (∀ j, j ≠ b → w'.heap[j]? = w.heap[j]?) ∧ ∀ B, B ≤ b → Below B w w'
theorem only_setCells (w : World) (b : Nat) (vs : List Value) (k : Nat) : Only b w (w.setCells b k vs) := ⟨(meta_setCells b vs k w).2.2.2, heap_setCells_other b vs k w, fun B hB => below_setCells w hB vs k⟩

/-- of the blocks that were there only those from lo up to hi may be turned -/
structure Within (lo hi : Nat) (w w' : World) : Prop where
  os : w'.os = w.os
  tape : w'.tape = w.tape
  output : w'.output = w.output
  size : w.heap.size ≤ w'.heap.size
  block : ∀ k, k < w.heap.size → (k < lo ∨ hi ≤ k) → w'.heap[k]? = w.heap[k]?
theorem Within.refl (lo hi : Nat) (w : World) : Within lo hi w w := ⟨rfl, rfl, rfl, Nat.le_refl _, fun _ _ _ => rfl⟩
theorem Within.trans {lo hi : Nat} {a b c : World} (h : Within lo hi a b) (k : Within lo hi b c) : Within lo hi a c :=
  ⟨k.os.trans h.os, k.tape.trans h.tape, k.output.trans h.output, Nat.le_trans h.size k.size, fun j hj hn => (k.block j (Nat.lt_of_lt_of_le hj h.size) hn).trans (h.block j hj hn)⟩
theorem Within.of_below {lo hi B : Nat} {w w' : World} (h : Below B w w') (hB : w.heap.size ≤ B) : Within lo hi w w' := ⟨h.os, h.tape, h.output, h.size, fun k hk _ => h.block k (by omega)⟩
theorem Within.setCell {lo hi : Nat} {a w : World} (h : Within lo hi a w) {p : Addr} (h1 : lo ≤ p.block) (h2 : p.block < hi) (u : Value) : Within lo hi a (w.setCell p u) :=
  h.trans ⟨rfl, rfl, rfl, by simp, fun k hk hn => Below.heap_setCell _ _ _ _ (by omega)⟩
theorem Within.drew {lo hi : Nat} {a w : World} (h : Within lo hi a w) : Within lo hi a w.drew := ⟨h.os, h.tape, h.output, h.size, h.block⟩
theorem Within.wide {lo hi lo' hi' : Nat} {w w' : World} (h : Within lo hi w w') (h1 : lo' ≤ lo) (h2 : hi ≤ hi') : Within lo' hi' w w' := ⟨h.os, h.tape, h.output, h.size, fun k hk hn => h.block k hk (by omega)⟩
theorem Within.below {lo hi B : Nat} {w w' : World} (h : Within lo hi w w') (h1 : B ≤ lo) (h2 : B ≤ w.heap.size) : Below B w w' := ⟨h.os, h.tape, h.output, h.size, fun k hk => h.block k (by omega) (by omega)⟩
theorem Within.only {lo hi b : Nat} {a w w' : World} (h : Within lo hi a w) (o : Only b w w') (h1 : lo ≤ b) (h2 : b < hi) : Within lo hi a w' := by
  have b0 := o.2.2 0 (Nat.zero_le _)
  exact h.trans ⟨b0.os, b0.tape, b0.output, b0.size, fun k hk hn => o.2.1 k (by omega)⟩

theorem below_drewN {B : Nat} (w : World) (n : Nat) : Below B w (w.drewN n) := ⟨rfl, rfl, rfl, Nat.le_refl _, fun _ _ => rfl⟩

section laws
variable {P : Program} {ops : Array Oper} {rest : List Oper} {o : Oper} {a : Act} {w : World} {Q : Exit → Act → World → Prop} {K : Act → World → Prop} {E : Prop}
theorem wpList_val (hgd : o.guard = none) {v : Value} {w' : World} (hr : (execOp a.eval o).run P w = .ok (.value v) w') (h : wpList P ops Q rest (a.put o.dst v) w') : wpList P ops Q (o :: rest) a w :=
  wpList_plain hgd fun K hK => by unfold Oper.wp; rw [hr]; exact hK _ _ h
theorem step_val (hgd : o.guard = none) {v : Value} {w' : World} (hr : (execOp a.eval o).run P w = .ok (.value v) w') (h : K (a.put o.dst v) w') :
    if Region.wanted o (yielded ops a.tmps) = true then Oper.wp P o a w K Q else E := by
  have hw : Region.wanted o (yielded ops a.tmps) = true := by simp [Region.wanted, hgd]
  rw [if_pos hw]
  unfold Oper.wp
  rw [hr]
  exact h

/-- a new variable that holds a struct -/
theorem wpList_box_v (hgd : o.guard = none) (t : TypeId) (x : Operand) (ho : o.op = .box t x) (vs : List Value) (hx : a.eval x = .agg vs.toArray)
    (h : ∀ (b : Nat) (w' : World), w.heap.size ≤ b → b < w'.heap.size → Below w.heap.size w w' → VBlk w' b t vs → wpList P ops Q rest (a.put o.dst (.pointer (some ⟨b, 0, none⟩))) w') : wpList P ops Q (o :: rest) a w := by
  refine wpList_val hgd (v := .pointer (some ⟨w.heap.size, 0, none⟩)) (w' := w.alloc (.cells vs.toArray t)) ?_ (h _ _ (Nat.le_refl _) (by simp) ((Below.refl _ _).alloc (Nat.le_refl _) _) (heap_alloc_new _ _))
  unfold execOp
  simp only [ho, hx]
  rfl
theorem wpList_alloc_v (hgd : o.guard = none) (t : TypeId) (ho : o.op = .alloc t) (vs : List Value) (hz : ∀ w, (zeroValue t).run P w = .ok (.agg vs.toArray) w)
    (h : ∀ (b : Nat) (w' : World), w.heap.size ≤ b → b < w'.heap.size → Below w.heap.size w w' → VBlk w' b t vs → wpList P ops Q rest (a.put o.dst (.pointer (some ⟨b, 0, none⟩))) w') : wpList P ops Q (o :: rest) a w := by
  refine wpList_val hgd (v := .pointer (some ⟨w.heap.size, 0, none⟩)) (w' := w.alloc (.cells vs.toArray t)) ?_ (h _ _ (Nat.le_refl _) (by simp) ((Below.refl _ _).alloc (Nat.le_refl _) _) (heap_alloc_new _ _))
  unfold execOp
  simp only [ho, Instr.alloc, Sem.run_bind, hz, Result.andThen_ok]
  rfl
/-- a struct is stored into its variable -/
theorem wpList_store_v (hgd : o.guard = none) (t : TypeId) (x y : Operand) (ho : o.op = .store t x y) (b : Nat) (ys : List Value) (hx : a.eval x = .pointer (some ⟨b, 0, none⟩)) (hy : a.eval y = .agg ys.toArray)
    (hi : (P.info? t).map (·.size) = some ys.length) {t' : TypeId} {vs : List Value} (hb : VBlk w b t' vs) (hn : ys.length = vs.length) (h1 : ∀ v ∈ ys, v.oneCell' = true)
    (h : ∀ w', Only b w w' → VBlk w' b t' ys → wpList P ops Q rest (a.put o.dst undef) w') : wpList P ops Q (o :: rest) a w := by
  refine wpList_store_mid hgd t x y ho b 0 ys.toArray hx hy ?_ (by rw [hi]; simp) (all_oneCell_toArray h1) ?_
  · rw [List.size_toArray, hn]; exact hb.there
  · refine h _ (only_setCells _ _ _ _) ?_
    unfold VBlk
    rw [heap_setCells b t' _ 0 w vs hb (by simp [hn])]
    simp [hn]
/-- a struct is loaded -/
theorem wpList_load_r (hgd : o.guard = none) (t : TypeId) (x : Operand) (ho : o.op = .load t x) (b k : Nat) (vs : List Value) (hx : a.eval x = .pointer (some ⟨b, k, none⟩)) (d : TypeDesc) (hu : P.underlying t = some d) (hd : d.isRow = true)
    (hi : (P.info? t).map (·.size) = some vs.length) (hr : w.rangeAt b k vs) (h : wpList P ops Q rest (a.put o.dst (.agg vs.toArray)) w) : wpList P ops Q (o :: rest) a w :=
  wpList_load_mid hgd t x ho b k hx vs d hr hu hd hi h
end laws

theorem row_retv {fn : Func} {p : Tmp} {ty : TypeId} (h : fn.results = #[.cell p ty]) {R : Ending → World → Prop} {a : Act} {w : World} {b : Nat} {t : TypeId} {vs : List Value} {fs : Array Field}
    (hp : a.tmps.getD p undef = .pointer (some ⟨b, 0, none⟩)) (hb : VBlk w b t vs) (hu : Try.prog.underlying ty = some (.struct fs))
    (hi : (Try.prog.info? ty).map (·.size) = some vs.length) (hdf : a.defers = []) (hR : R (.returned (.agg vs.toArray)) w) : bodyPost Try.prog fn R .ret a w :=
  bodyPost_ret (results_cell_row h a.tmps w b t _ _ _ hp hb hu rfl (by rw [hi]; simp)) hdf hR

theorem sizeC : (Try.prog.info? 97).map (·.size) = some 4 := by kernel_rfl
theorem zeroC (w : World) : (zeroValue 97).run Try.prog w = .ok (.agg [Value.int .i64 0, .int .i64 0, .int .i64 0, .bool false].toArray) w := Try.zeroValue97 w

end Go.Proofs.Ythjkhghlhjndmaa.ce
/- Cells of the heap in memory: how a slice of them is read, and how one that a call made is owned. -/
namespace Go.Proofs.Ythjkhghlhjndmaa.ce
open Go.ChangeShapes Go.WideShapes Go.ChangeAt Go.RowKit
set_option linter.unusedVariables false

/-- one cell -/
structure C where
  key : Int
  value : Int
  next : Int
  gone : Bool
instance : DecidableEq C := fun a b =>
  if h : a.key = b.key ∧ a.value = b.value ∧ a.next = b.next ∧ a.gone = b.gone then isTrue (by obtain ⟨h1, h2, h3, h4⟩ := h; cases a; cases b; simp_all) else isFalse (by intro e; subst e; simp at h)
/-- a cell's values -/
def cv (c : C) : List Value := [.int .i64 c.key, .int .i64 c.value, .int .i64 c.next, .bool c.gone]
def cvs (h : List C) : List Value := h.flatMap cv
theorem cvs_len (h : List C) : (cvs h).length = h.length * 4 := by
  induction h with
  | nil => rfl
  | cons c h ih => simp only [cvs, List.flatMap_cons, List.length_append, List.length_cons] at ih ⊢; rw [ih]; simp [cv]; omega
theorem cvs_one (h : List C) : ∀ v ∈ cvs h, v.oneCell' = true := by
  intro v hv
  obtain ⟨c, -, hc⟩ := List.mem_flatMap.1 hv
  simp only [cv, List.mem_cons, List.not_mem_nil, or_false] at hc
  rcases hc with rfl | rfl | rfl | rfl <;> rfl
theorem cvs_append (g h : List C) : cvs (g ++ h) = cvs g ++ cvs h := by simp [cvs]
theorem cvs_get (h : List C) (i : Nat) (hi : i < h.length) (j : Nat) (hj : j < 4) : (cvs h)[i * 4 + j]? = (cv h[i])[j]? := by
  induction h generalizing i with
  | nil => simp at hi
  | cons c h ih =>
    simp only [cvs, List.flatMap_cons] at ih ⊢
    cases i with
    | zero => rw [List.getElem?_append_left (by simp [cv]; omega)]; simp
    | succ i =>
      have h4 : (cv c).length = 4 := rfl
      rw [List.getElem?_append_right (by rw [h4]; omega), h4, show (i + 1) * 4 + j - 4 = i * 4 + j by omega, ih i (by simpa using hi)]
      simp
theorem cvs_set (h : List C) (i : Nat) (hi : i < h.length) (j : Nat) (hj : j < 4) (u : Value) (c : C) (hc : cv c = (cv h[i]).set j u) : (cvs h).set (i * 4 + j) u = cvs (h.set i c) := by
  apply List.ext_getElem?
  intro k
  rw [List.getElem?_set]
  by_cases hk : k < h.length * 4
  · obtain ⟨i', j', rfl, hj'⟩ : ∃ i' j', k = i' * 4 + j' ∧ j' < 4 := ⟨k / 4, k % 4, by omega, by omega⟩
    have hi' : i' < h.length := by omega
    rw [cvs_get (h.set i c) i' (by simpa using hi') j' hj', cvs_get h i' hi' j' hj', cvs_len]
    by_cases e : i = i'
    · subst e
      rw [List.getElem_set_self, hc, List.getElem?_set]
      have h4 : (cv h[i]).length = 4 := rfl
      rw [h4]
      by_cases e2 : j = j'
      · subst e2; simp [hk, hj]
      · rw [if_neg (by omega), if_neg e2]
    · rw [List.getElem_set_ne e, if_neg (by omega)]
  · rw [List.getElem?_eq_none (l := cvs h) (by rw [cvs_len]; omega), List.getElem?_eq_none (l := cvs (h.set i c)) (by rw [cvs_len, List.length_set]; omega), if_neg (by omega)]

/-- the cells h are read at the slice v, in blocks under hi -/
structure Rd (w : World) (hi : Nat) (v : Value) (h : List C) : Prop where
  fits : ∃ a cap, v = .slice a h.length cap ∧ h.length ≤ cap ∧ cap ≤ maxLen ∧ (h ≠ [] → ∃ b off, a = some ⟨b, off, none⟩ ∧ b < hi ∧ w.rangeAt b off (cvs h))
/-- the blocks under hi are as they were -/
theorem range_of {w w' : World} {b o : Nat} {cs : List Value} (h : w.rangeAt b o cs) (e : w'.heap[b]? = w.heap[b]?) : w'.rangeAt b o cs := fun j v hv => by
  rw [World.cell?_of_block (w := w) e]; exact h j v hv
theorem Rd.keep {w w' : World} {hi : Nat} {v : Value} {h : List C} (r : Rd w hi v h) (s : ∀ k, k < hi → w'.heap[k]? = w.heap[k]?) : Rd w' hi v h := by
  obtain ⟨a, cap, e, h1, h2, h3⟩ := r.fits
  refine ⟨a, cap, e, h1, h2, fun hn => ?_⟩
  obtain ⟨b, off, e2, h4, h5⟩ := h3 hn
  exact ⟨b, off, e2, h4, range_of h5 (s b h4)⟩
theorem Rd.below {w w' : World} {hi B : Nat} {v : Value} {h : List C} (r : Rd w hi v h) (hb : Below B w w') (hB : hi ≤ B) : Rd w' hi v h := r.keep fun k hk => hb.block k (by omega)
theorem Rd.drew {w : World} {hi : Nat} {v : Value} {h : List C} (r : Rd w hi v h) : Rd w.drew hi v h := r.keep fun k hk => rfl
theorem Rd.drewN {w : World} {hi : Nat} {v : Value} {h : List C} (r : Rd w hi v h) (n : Nat) : Rd (w.drewN n) hi v h := r.keep fun k hk => rfl
theorem Rd.wide {w : World} {hi hi' : Nat} {v : Value} {h : List C} (r : Rd w hi v h) (hh : hi ≤ hi') : Rd w hi' v h := by
  obtain ⟨a, cap, e, h1, h2, h3⟩ := r.fits
  refine ⟨a, cap, e, h1, h2, fun hn => ?_⟩
  obtain ⟨b, off, e2, h4, h5⟩ := h3 hn
  exact ⟨b, off, e2, by omega, h5⟩
theorem Rd.form {w : World} {hi : Nat} {v : Value} {h : List C} (r : Rd w hi v h) : ∃ a cap, v = .slice a h.length cap := by
  obtain ⟨a, cap, e, -⟩ := r.fits
  exact ⟨a, cap, e⟩
theorem Rd.len {w : World} {hi : Nat} {v : Value} {h : List C} (r : Rd w hi v h) : h.length ≤ 9223372036854775807 := by
  obtain ⟨a, cap, e, h1, h2, h3⟩ := r.fits
  unfold maxLen at h2; omega
theorem range_cell {w : World} {b off : Nat} {h : List C} (r : w.rangeAt b off (cvs h)) (i : Nat) (hi : i < h.length) :
    w.cell? ⟨b, off + i * 4, none⟩ = some (.int .i64 (h[i]).key) ∧ w.cell? ⟨b, off + i * 4 + 1, none⟩ = some (.int .i64 (h[i]).value) ∧ w.cell? ⟨b, off + i * 4 + 2, none⟩ = some (.int .i64 (h[i]).next) ∧ w.cell? ⟨b, off + i * 4 + 3, none⟩ = some (.bool (h[i]).gone) := by
  refine ⟨?_, ?_, ?_, ?_⟩
  · have := r (i * 4 + 0) _ (cvs_get h i hi 0 (by omega)); exact this
  · have := r (i * 4 + 1) _ (cvs_get h i hi 1 (by omega)); rw [← Nat.add_assoc] at this; exact this
  · have := r (i * 4 + 2) _ (cvs_get h i hi 2 (by omega)); rw [← Nat.add_assoc] at this; exact this
  · have := r (i * 4 + 3) _ (cvs_get h i hi 3 (by omega)); rw [← Nat.add_assoc] at this; exact this
theorem Rd.cell {w : World} {hi n cap : Nat} {a : Option Addr} {h : List C} (r : Rd w hi (.slice a n cap) h) (i : Nat) (hi' : i < h.length) : ∃ b off, a = some ⟨b, off, none⟩ ∧ b < hi ∧
    w.cell? ⟨b, off + i * 4, none⟩ = some (.int .i64 (h[i]).key) ∧ w.cell? ⟨b, off + i * 4 + 1, none⟩ = some (.int .i64 (h[i]).value) ∧ w.cell? ⟨b, off + i * 4 + 2, none⟩ = some (.int .i64 (h[i]).next) ∧ w.cell? ⟨b, off + i * 4 + 3, none⟩ = some (.bool (h[i]).gone) := by
  obtain ⟨a', cap', e, h1, h2, h3⟩ := r.fits
  cases e
  obtain ⟨b, off, rfl, h4, h5⟩ := h3 (by intro e; subst e; simp at hi')
  exact ⟨b, off, rfl, h4, range_cell h5 i hi'⟩

theorem hid_ex {α : Type} (x : α) : ∃ y, Hid (x = y) := ⟨x, (rfl : x = x)⟩

def has (h : List C) (p : Int) : Prop := 0 ≤ p ∧ p < h.length
instance (h : List C) (p : Int) : Decidable (has h p) := by unfold has; infer_instance
def nth (h : List C) (p : Int) : C := h.getD p.toNat ⟨0, 0, 0, false⟩
def leads (h : List C) (key next : Int) : Prop := next = -1 ∨ has h next ∧ key < (nth h next).key
instance (h : List C) (key next : Int) : Decidable (leads h key next) := by unfold leads; infer_instance
theorem nth_nat (h : List C) (i : Nat) (hi : i < h.length) : nth h (i : Int) = h[i] := by simp [nth, hi]

theorem has_any (h : List C) (p : Int) (a : Option Addr) (cap : Nat) (hl : h.length ≤ 9223372036854775807) (w : World) :
    Calls Try.prog 98 #[.slice a h.length cap, .int .i64 p] w fun e w' => e = .returned (.bool (decide (has h p))) ∧ w' = w := by
  by_cases h0 : 0 ≤ p
  · go_enter Try.func98, Try.ntmps98
    go_wp2
    go_ret
    exact ⟨by simp [has, h0], rfl⟩
  · have e : Hid (decide (has h p) = false) := by unfold Hid; simp [has, h0]
    rw [e.out]
    go_enter Try.func98, Try.ntmps98
    go_wp2
    go_ret
    exact ⟨rfl, rfl⟩

theorem leads_any (h : List C) (key next : Int) (v : Value) (hi : Nat) (w : World) (r : Rd w hi v h) :
    Calls Try.prog 95 #[v, .int .i64 key, .int .i64 next] w fun e w' => e = .returned (.bool (decide (leads h key next))) ∧ w' = w := by
  obtain ⟨a, cap, rfl⟩ := r.form
  have hl := r.len
  by_cases h0 : next = -1
  · subst h0
    go_enter Try.func95, Try.ntmps95
    go_wp2
    go_ret
    exact ⟨by simp [leads], rfl⟩
  · have hne : ((next == -1) = false) := by simpa using h0
    by_cases h1 : has h next
    · obtain ⟨i, rfl⟩ : ∃ i : Nat, next = i := ⟨next.toNat, by have := h1.1; omega⟩
      have hi1 : i < h.length := by have := h1.2; omega
      obtain ⟨b, off, rfl, -, c0, -, -, -⟩ := r.cell i hi1
      have hd : Hid (decide (has h (i : Int)) = true) := by unfold Hid; simpa using h1
      have e : Hid (decide (leads h key (i : Int)) = decide (key < (h[i]).key)) := decide_eq_decide.2 (by unfold leads; rw [nth_nat h i hi1]; simp [h0, h1])
      have hi1' : (i : Int) < h.length := by omega
      clear r
      rw [e.out]
      go_enter Try.func95, Try.ntmps95
      go_wp2_with (first | (go_at_call 98; refine (has_any h (i : Int) _ _ hl _).mono ?_; rintro e wq ⟨rfl, hq⟩; subst wq; rw [hd.out]))
      go_ret
      exact ⟨rfl, rfl⟩
    · have hd : Hid (decide (has h next) = false) := by unfold Hid; simpa using h1
      have e : Hid (decide (leads h key next) = false) := decide_eq_false (by unfold leads; simp [h0, h1])
      clear r
      rw [e.out]
      go_enter Try.func95, Try.ntmps95
      go_wp2_with (first | (go_at_call 98; refine (has_any h next _ _ hl _).mono ?_; rintro e wq ⟨rfl, hq⟩; subst wq; rw [hd.out]))
      go_ret
      exact ⟨rfl, rfl⟩

end Go.Proofs.Ythjkhghlhjndmaa.ce
/- Contracts: what a heap of cells is, by the program and by the model. -/
namespace Go.Proofs.Ythjkhghlhjndmaa.ce
open Go.ChangeShapes Go.WideShapes Go.ChangeAt Go.RowKit
set_option linter.unusedVariables false

def right (h : List C) (c : C) : Prop := (1 ≤ c.key ∧ c.key ≤ 65535) ∧ leads h c.key c.next
instance (h : List C) (c : C) : Decidable (right h c) := by unfold right; infer_instance
def first (h : List C) : Prop := (nth h 0).key = 0 ∧ (nth h 0).gone = false ∧ leads h (nth h 0).key (nth h 0).next
instance (h : List C) : Decidable (first h) := by unfold first; infer_instance
def heapOk (h : List C) : Prop := (1 ≤ h.length ∧ h.length ≤ 40) ∧ first h ∧ ∀ c ∈ h.drop 1, right h c
instance (h : List C) : Decidable (heapOk h) := by unfold heapOk; infer_instance
/-- a cell that stands as it was told -/
def stands (h : List C) (p next : Int) : Prop := has h p ∧ (nth h p).gone = false ∧ (nth h p).next = next
instance (h : List C) (p next : Int) : Decidable (stands h p next) := by unfold stands; infer_instance

theorem firstRight_any (h : List C) (v : Value) (hi : Nat) (w : World) (hh : hi ≤ w.heap.size) (r : Rd w hi v h) (h1 : 1 ≤ h.length) :
    Calls Try.prog 78 #[v] w fun e w' => e = .returned (.bool (decide (first h))) ∧ Below w.heap.size w w' := by
  obtain ⟨a, cap, rfl⟩ := r.form
  have hl := r.len
  obtain ⟨b, off, rfl, hb, c0, -, c2, c3⟩ := r.cell 0 h1
  have e0 : Hid (nth h 0 = h[0]) := nth_nat h 0 h1
  simp only [Nat.zero_mul, Nat.add_zero] at c0 c2 c3
  have R : Hid (Rd w hi (.slice (some ⟨b, off, none⟩) h.length cap) h) := r
  clear r
  obtain ⟨k, hk⟩ := hid_ex (h[0]).key
  obtain ⟨n, hn⟩ := hid_ex (h[0]).next
  obtain ⟨g, hg⟩ := hid_ex (h[0]).gone
  rw [hk.out] at c0
  rw [hn.out] at c2
  rw [hg.out] at c3
  have hpos : (0 : Int) < h.length := by omega
  have hpos' : 0 < h.length := h1
  have S : w.cell? ⟨b, off, none⟩ = some (.int .i64 k) ∧ w.cell? ⟨b, off + 2, none⟩ = some (.int .i64 n) ∧ w.cell? ⟨b, off + 3, none⟩ = some (.bool g) := ⟨c0, c2, c3⟩
  have fin : Hid (decide (first h) = ((k == 0) && (!g) && decide (leads h k n))) := by
    unfold Hid
    rw [Bool.eq_iff_iff, decide_eq_true_iff]
    unfold first
    rw [e0.out, hk.out, hn.out, hg.out]
    cases g <;> simp
  rw [fin.out]
  by_cases hk0 : k = 0
  · subst hk0
    cases g
    · go_enter Try.func78, Try.ntmps78
      go_wp2
      go_quiet (first | (go_at_call 95; refine Calls.quiet_of_same (leads_any h 0 n _ hi _ (R.out.drewN _))) | (fail))
      go_wp2
      go_ret
      exact ⟨by simp, below_drewN _ _⟩
    · obtain ⟨g, hgt⟩ : ∃ g, g = true := ⟨_, rfl⟩
      have hgn : (!g) = false := by rw [hgt]; rfl
      rw [← hgt] at S c3 ⊢
      clear hgt
      go_enter Try.func78, Try.ntmps78
      go_wp2
      go_quiet (fail)
      go_wp2
      go_ret
      exact ⟨by first | (simp; done) | simp [hgn], below_drewN _ _⟩
  · have hkf : (k == 0) = false := by simpa using hk0
    go_enter Try.func78, Try.ntmps78
    go_wp2
    go_quiet (fail)
    go_wp2
    go_ret
    exact ⟨by simp [hkf], below_drewN _ _⟩

theorem otherRight_any (h : List C) (c : C) (v : Value) (hi : Nat) (w : World) (hh : hi ≤ w.heap.size) (r : Rd w hi v h) :
    Calls Try.prog 79 #[v, .agg (cv c).toArray] w fun e w' => e = .returned (.bool (decide (right h c))) ∧ Below w.heap.size w w' := by
  obtain ⟨a, cap, rfl⟩ := r.form
  have R : Hid (Rd w hi (.slice a h.length cap) h) := r
  clear r
  obtain ⟨k, x, n, g⟩ := c
  have fin : Hid (decide (right h ⟨k, x, n, g⟩) = (decide (1 ≤ k) && decide (k ≤ 65535) && decide (leads h k n))) := by
    unfold Hid
    rw [Bool.eq_iff_iff, decide_eq_true_iff]
    unfold right
    simp
  rw [fin.out]
  by_cases h1 : 1 ≤ k
  · by_cases h2 : k ≤ 65535
    · go_enter Try.func79, Try.ntmps79
      go_wp2_with (first | (refine wpList_box_v rfl 97 _ rfl [.int .i64 k, .int .i64 x, .int .i64 n, .bool g] rfl ?_; intro b1 w1 hb1 hw1 hB1 hV1; have c0 := hV1.cell 0 (by simp); have c2 := hV1.cell 2 (by simp); simp only [List.getElem_cons_zero, List.getElem_cons_succ] at c0 c2) | (go_at_call 95; refine (leads_any h k n _ hi _ (R.out.below hB1 hh)).mono ?_; rintro e wq ⟨rfl, hq⟩; subst wq) | (fail))
      go_ret
      exact ⟨by simp [h1, h2], hB1⟩
    · go_enter Try.func79, Try.ntmps79
      go_wp2_with (first | (refine wpList_box_v rfl 97 _ rfl [.int .i64 k, .int .i64 x, .int .i64 n, .bool g] rfl ?_; intro b1 w1 hb1 hw1 hB1 hV1; have c0 := hV1.cell 0 (by simp); have c2 := hV1.cell 2 (by simp); simp only [List.getElem_cons_zero, List.getElem_cons_succ] at c0 c2) | (fail))
      go_ret
      exact ⟨by rw [decide_eq_false (by omega : ¬ k ≤ 65535)]; simp, hB1⟩
  · go_enter Try.func79, Try.ntmps79
    go_wp2_with (first | (refine wpList_box_v rfl 97 _ rfl [.int .i64 k, .int .i64 x, .int .i64 n, .bool g] rfl ?_; intro b1 w1 hb1 hw1 hB1 hV1; have c0 := hV1.cell 0 (by simp); have c2 := hV1.cell 2 (by simp); simp only [List.getElem_cons_zero, List.getElem_cons_succ] at c0 c2) | (fail))
    go_ret
    exact ⟨by rw [decide_eq_false (by omega : ¬ 1 ≤ k)]; simp, hB1⟩

theorem stands_any (h : List C) (p next : Int) (v : Value) (hi : Nat) (w : World) (r : Rd w hi v h) :
    Calls Try.prog 135 #[v, .int .i64 p, .int .i64 next] w fun e w' => e = .returned (.bool (decide (stands h p next))) ∧ w' = w := by
  obtain ⟨a, cap, rfl⟩ := r.form
  have hl := r.len
  by_cases h1 : has h p
  · obtain ⟨i, rfl⟩ : ∃ i : Nat, p = i := ⟨p.toNat, by have := h1.1; omega⟩
    have hi1 : i < h.length := by have := h1.2; omega
    obtain ⟨b, off, rfl, -, -, -, c2, c3⟩ := r.cell i hi1
    have hd : Hid (decide (has h (i : Int)) = true) := by unfold Hid; simpa using h1
    obtain ⟨n, hn⟩ := hid_ex (h[i]).next
    obtain ⟨g, hg⟩ := hid_ex (h[i]).gone
    rw [hn.out] at c2
    rw [hg.out] at c3
    have fin : Hid (decide (stands h (i : Int) next) = ((!g) && (n == next))) := by
      unfold Hid
      rw [Bool.eq_iff_iff, decide_eq_true_iff]
      unfold stands
      rw [nth_nat h i hi1, hn.out, hg.out]
      cases g <;> simp [h1]
    have hi1' : (i : Int) < h.length := by omega
    clear r h1
    rw [fin.out]
    cases g
    · go_enter Try.func135, Try.ntmps135
      go_wp2_with (first | (go_at_call 98; refine (has_any h (i : Int) _ _ hl _).mono ?_; rintro e wq ⟨rfl, hq⟩; subst wq; rw [hd.out]))
      go_ret
      exact ⟨by simp, rfl⟩
    · go_enter Try.func135, Try.ntmps135
      go_wp2_with (first | (go_at_call 98; refine (has_any h (i : Int) _ _ hl _).mono ?_; rintro e wq ⟨rfl, hq⟩; subst wq; rw [hd.out]))
      go_ret
      exact ⟨by simp, rfl⟩
  · have hd : Hid (decide (has h p) = false) := by unfold Hid; simpa using h1
    have e : Hid (decide (stands h p next) = false) := decide_eq_false (by unfold stands; simp [h1])
    clear r
    rw [e.out]
    go_enter Try.func135, Try.ntmps135
    go_wp2_with (first | (go_at_call 98; refine (has_any h p _ _ hl _).mono ?_; rintro e wq ⟨rfl, hq⟩; subst wq; rw [hd.out]))
    go_ret
    exact ⟨rfl, rfl⟩

end Go.Proofs.Ythjkhghlhjndmaa.ce
/- Contracts: HeapOk of the program and of the model. -/
namespace Go.Proofs.Ythjkhghlhjndmaa.ce
open Go.ChangeShapes Go.WideShapes Go.ChangeAt Go.RowKit
set_option linter.unusedVariables false

theorem cv_range {w : World} {b off : Nat} {h : List C} (r : w.rangeAt b off (cvs h)) (i : Nat) (hi : i < h.length) : w.rangeAt b (off + i * 4) (cv h[i]) := fun j v hv => by
  have hj : j < 4 := (List.getElem?_eq_some_iff.1 hv).1
  have := r (i * 4 + j) v (by rw [cvs_get h i hi j hj]; exact hv)
  rw [← Nat.add_assoc] at this
  exact this
theorem cvs_one1 (c : C) : ∀ v ∈ cv c, v.oneCell' = true := by
  intro v hv
  simp only [cv, List.mem_cons, List.not_mem_nil, or_false] at hv
  rcases hv with rfl | rfl | rfl | rfl <;> rfl
theorem right_drop (h : List C) (i : Nat) (hi : i < h.length) (h0 : 1 ≤ i) (hr : ¬ right h h[i]) : ¬ heapOk h := fun ok => hr (ok.2.2 _ (by
  have e : h[i] = (h.drop 1)[i - 1]'(by simp; omega) := by rw [List.getElem_drop]; congr 1; omega
  rw [e]; exact List.getElem_mem _))

theorem ok_upto (H : List C) (hm : H.length ≤ 40) (hp : 1 ≤ H.length) (hf : first H) (hd : ∀ j (hj : j < H.length), 1 ≤ j → right H H[j]) : heapOk H := by
  refine ⟨⟨hp, hm⟩, hf, fun c hc => ?_⟩
  obtain ⟨j, hj, rfl⟩ := List.getElem_of_mem hc
  rw [List.getElem_drop]
  exact hd _ (by simp at hj; omega) (by omega)

theorem implHeapOk_any (H : List C) (v : Value) (hi : Nat) (w : World) (hh : hi ≤ w.heap.size) (r : Rd w hi v H) :
    Calls Try.prog 47 #[v] w fun e w' => e = .returned (.bool (decide (heapOk H))) ∧ Below w.heap.size w w' := by
  obtain ⟨a, cap, rfl, hlc, hcm, hA⟩ := r.fits
  have hl := r.len
  have R : Hid (Rd w hi (.slice a H.length cap) H) := r
  clear r
  by_cases h1 : H.length < 1
  · have e : Hid (decide (heapOk H) = false) := decide_eq_false (fun ok => by have := ok.1.1; omega)
    rw [e.out]
    have h0 : H.length = 0 := by omega
    clear hA
    go_enter Try.func47, Try.ntmps47
    go_wp2
    go_ret
    exact ⟨rfl, Below.refl _ _⟩
  by_cases h2 : 40 < H.length
  · have e : Hid (decide (heapOk H) = false) := decide_eq_false (fun ok => by have := ok.1.2; omega)
    rw [e.out]
    clear hA
    go_enter Try.func47, Try.ntmps47
    go_wp2
    go_ret
    exact ⟨rfl, Below.refl _ _⟩
  obtain ⟨b, off, rfl, hb, hr⟩ := hA (by intro e; subst e; simp at h1)
  have RG : Hid (w.rangeAt b off (cvs H)) := hr
  clear hA hr
  have n1 : ((H.length : Int) < 1) = False := by simp; omega
  have n2 : ((40 : Int) < H.length) = False := by simp; omega
  by_cases hf : first H
  · have HF : Hid (decide (first H) = true) := by unfold Hid; simpa using hf
    have FF : Hid (first H) := hf
    have hm : H.length ≤ 40 := by omega
    have hp : 1 ≤ H.length := by omega
    have hc1 : 1 ≤ cap := by omega
    have hcap : cap ≤ 9223372036854775807 := by unfold maxLen at hcm; omega
    clear hf
    by_cases hcap1 : cap = 1
    · subst hcap1
      have hl1 : H.length = 1 := by omega
      have e : Hid (decide (heapOk H) = true) := decide_eq_true (ok_upto H hm hp FF.out (fun j hj h0 => by omega))
      rw [e.out]
      rw [hl1] at R
      rw [hl1]
      clear n1 n2 h1 h2
      go_enter Try.func47, Try.ntmps47
      go_wp2_with (first | (go_at_call 78; refine (firstRight_any H _ hi _ hh R.out hp).mono ?_; rintro e w1 ⟨rfl, hB1⟩; rw [HF.out]))
      go_loopw [21] (fun v wr => v = .int .i64 0 ∧ wr = w1) (fun v _ => 0)
      case atStart => exact ⟨rfl, rfl⟩
      case round =>
        obtain ⟨rfl, rfl⟩ := hrel
        go_wp2
        go_ret
        exact ⟨rfl, hB1⟩
    · go_enter Try.func47, Try.ntmps47
      go_wp2_with (first | (go_at_call 78; refine (firstRight_any H _ hi _ hh R.out hp).mono ?_; rintro e w1 ⟨rfl, hB1⟩; rw [HF.out]))
      go_loopw [21] (fun v wr => ∃ i : Nat, i ≤ H.length - 1 ∧ v = .int .i64 i ∧ Hid (∀ j (hj : j < H.length), 1 ≤ j → j ≤ i → right H H[j]) ∧ Below w.heap.size w wr) (fun v _ => H.length - 1 - (intOf v).toNat)
      case atStart => exact ⟨0, by omega, rfl, fun j hj h0 h1 => by omega, hB1⟩
      case round =>
        obtain ⟨i, hi1, rfl, hd, hBr⟩ := hrel
        by_cases hlt : i < H.length - 1
        · have hil : i + 1 < H.length := by omega
          obtain ⟨c, hc⟩ := hid_ex (H[i + 1])
          have rg : Hid (wr.rangeAt b (off + 4 + i * 4) (cv c)) := by
            have h1 := cv_range (range_of RG.out (hBr.block b (by omega))) (i + 1) hil
            rw [hc.out, show off + (i + 1) * 4 = off + 4 + i * 4 by omega] at h1
            exact h1
          have hbr := hBr.size
          have hlt' : (i : Int) < ((H.length - 1 : Nat) : Int) := by omega
          have m1 : Hid True := trivial
          have RR : Hid (Rd wr hi (.slice (some ⟨b, off, none⟩) H.length cap) H) := R.out.below hBr hh
          by_cases hrt : right H c
          · have HR : Hid (decide (right H c) = true) := decide_eq_true hrt
            go_wp2_with (first | (clear m1; refine wpList_load_r rfl 97 _ rfl b (off + 4 + i * 4) (cv c) rfl _ Try.underlying97 rfl sizeC rg.out ?_) | (refine wpList_alloc_v rfl 97 rfl _ zeroC ?_; intro b2 w2 hb2 hw2 hB2 hV2) | (refine wpList_store_v rfl 97 _ _ rfl b2 (cv c) rfl rfl sizeC hV2 rfl (cvs_one1 c) ?_; intro w3 hO3 hV3) | (refine wpList_load_r rfl 97 _ rfl b2 0 (cv c) rfl _ Try.underlying97 rfl sizeC hV3.range ?_) | (go_at_call 79; refine (otherRight_any H c _ hi _ (by have := hO3.1; have := hB2.size; omega) ((RR.out.below hB2 (by omega)).keep fun k hk => hO3.2.1 k (by omega))).mono ?_; rintro e w4 ⟨rfl, hB4⟩; rw [HR.out]) | (fail))
            go_roundw
            case rel =>
              refine ⟨i + 1, by omega, by go_num, fun j hj h0 h1 => ?_, ?_⟩
              · by_cases e : j = i + 1
                · subst e; rw [hc.out]; exact hrt
                · exact hd.out j hj h0 (by omega)
              · exact ((hBr.trans (hB2.mono hbr)).trans (hO3.2.2 _ (by omega))).trans (hB4.mono (by have := hO3.1; have := hB2.size; omega))
            case measure => simp [intOf]; omega
          · have HR : Hid (decide (right H c) = false) := decide_eq_false hrt
            have e : Hid (decide (heapOk H) = false) := decide_eq_false (right_drop H (i + 1) hil (by omega) (by rw [hc.out]; exact hrt))
            go_wp2_with (first | (clear m1; refine wpList_load_r rfl 97 _ rfl b (off + 4 + i * 4) (cv c) rfl _ Try.underlying97 rfl sizeC rg.out ?_) | (refine wpList_alloc_v rfl 97 rfl _ zeroC ?_; intro b2 w2 hb2 hw2 hB2 hV2) | (refine wpList_store_v rfl 97 _ _ rfl b2 (cv c) rfl rfl sizeC hV2 rfl (cvs_one1 c) ?_; intro w3 hO3 hV3) | (refine wpList_load_r rfl 97 _ rfl b2 0 (cv c) rfl _ Try.underlying97 rfl sizeC hV3.range ?_) | (go_at_call 79; refine (otherRight_any H c _ hi _ (by have := hO3.1; have := hB2.size; omega) ((RR.out.below hB2 (by omega)).keep fun k hk => hO3.2.1 k (by omega))).mono ?_; rintro e w4 ⟨rfl, hB4⟩; rw [HR.out]) | (fail))
            go_ret
            exact ⟨by rw [e.out]; rfl, ((hBr.trans (hB2.mono hbr)).trans (hO3.2.2 _ (by omega))).trans (hB4.mono (by have := hO3.1; have := hB2.size; omega))⟩
        · have ei : i = H.length - 1 := by omega
          have e : Hid (decide (heapOk H) = true) := decide_eq_true (ok_upto H hm hp FF.out (fun j hj h0 => hd.out j hj h0 (by omega)))
          have hlt' : ¬ ((i : Int) < ((H.length - 1 : Nat) : Int)) := by omega
          go_wp2
          go_ret
          exact ⟨by rw [e.out]; rfl, hBr⟩
  · have HF : Hid (decide (first H) = false) := by unfold Hid; simpa using hf
    have e : Hid (decide (heapOk H) = false) := decide_eq_false (fun ok => hf ok.2.1)
    rw [e.out]
    go_enter Try.func47, Try.ntmps47
    go_wp2_with (first | (go_at_call 78; refine (firstRight_any H _ hi _ hh R.out (by omega)).mono ?_; rintro e w1 ⟨rfl, hB1⟩; rw [HF.out]))
    go_ret
    exact ⟨rfl, hB1⟩

end Go.Proofs.Ythjkhghlhjndmaa.ce
