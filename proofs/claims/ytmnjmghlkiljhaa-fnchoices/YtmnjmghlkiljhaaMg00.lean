/- Texts laid together: SkLaws Sk1 SkMem Sk2 SkOps Sk3 Sk4 Plain1 Hash1 Place1. -/
import Derived.Test.YtmnjmghlkiljhaaRows
import Derived.WalkKit
import Derived.ProofKit
import Derived.OpenShut
import Derived.Below
import Derived.Deep.MidRow
import Derived.Deep.OwnRows
import Derived.ChangeKeysEq
import Derived.Deep.RegionHeld3
/- Rows of integers in memory, and what the operations on whole arrays do to them. -/
namespace Go.Proofs.Ytmnjmghlkiljhaa.sk
open Go.ChangeShapes Go.WideShapes Go.ChangeAt Go.RowKit
set_option linter.unusedVariables false

/-- integers as cells -/
def ints (xs : List Int) : List Value := xs.map (Value.int .i64)
abbrev arr (xs : List Int) : Value := .agg (ints xs).toArray
theorem ints_len (xs : List Int) : (ints xs).length = xs.length := by simp [ints]
theorem ints_size (xs : List Int) : (ints xs).toArray.size = xs.length := by simp [ints]
theorem ints_get (xs : List Int) (i : Nat) : (ints xs)[i]? = xs[i]?.map (Value.int .i64) := by simp [ints]
theorem ints_one (xs : List Int) : ∀ v ∈ ints xs, v.oneCell' = true := by
  intro v hv
  obtain ⟨x, -, rfl⟩ := List.mem_map.1 hv
  rfl
theorem ints_set (xs : List Int) (i : Nat) (x : Int) : (ints xs).set i (.int .i64 x) = ints (xs.set i x) := by simp [ints, List.map_set]

/-- block b is a row of integers, not frozen -/
def Blk (w : World) (b : Nat) (t : TypeId) (xs : List Int) : Prop := w.heap[b]? = some (.cells (ints xs).toArray t (0, 0))

theorem Blk.range {w : World} {b : Nat} {t : TypeId} {xs : List Int} (h : Blk w b t xs) (o : Nat) : w.rangeAt b o (ints (xs.drop o)) := fun j v hv => by
  rw [cell_of_row _ _ _ _ _ _ h]
  rw [ints_get, List.getElem?_drop] at hv
  simpa [ints] using hv
theorem Blk.range0 {w : World} {b : Nat} {t : TypeId} {xs : List Int} (h : Blk w b t xs) : w.rangeAt b 0 (ints xs) := by
  have := h.range 0
  simpa using this
theorem Blk.there {w : World} {b : Nat} {t : TypeId} {xs : List Int} (h : Blk w b t xs) (o n : Nat) (hn : o + n ≤ xs.length) : w.there b o n := fun j hj =>
  ⟨by rw [cell_of_row _ _ _ _ _ _ h]; simp [ints]; omega, frozen_of_row _ _ _ _ _ h⟩
theorem Blk.frozen {w : World} {b : Nat} {t : TypeId} {xs : List Int} (h : Blk w b t xs) (j : Nat) : w.frozen? ⟨b, j, none⟩ = false := frozen_of_row _ _ _ _ _ h
theorem Blk.cell {w : World} {b : Nat} {t : TypeId} {xs : List Int} (h : Blk w b t xs) (j : Nat) (hj : j < xs.length) : w.cell? ⟨b, j, none⟩ = some (.int .i64 xs[j]) := by
  rw [cell_of_row _ _ _ _ _ _ h]; simp [ints, hj]
theorem Blk.lt {w : World} {b : Nat} {t : TypeId} {xs : List Int} (h : Blk w b t xs) : b < w.heap.size := (Array.getElem?_eq_some_iff.1 h).1
theorem Blk.set {w : World} {b : Nat} {t : TypeId} {xs : List Int} (h : Blk w b t xs) (i : Nat) (x : Int) : Blk (w.setCell ⟨b, i, none⟩ (.int .i64 x)) b t (xs.set i x) := by
  unfold Blk
  rw [heap_setCell_same w b i _ t _ h]
  simp [← ints_set]
theorem Blk.of {w w' : World} {b : Nat} {t : TypeId} {xs : List Int} (h : Blk w b t xs) (e : w'.heap[b]? = w.heap[b]?) : Blk w' b t xs := by
  unfold Blk; rw [e]; exact h
theorem Blk.new (w : World) (t : TypeId) (xs : List Int) : Blk (w.alloc (.cells (ints xs).toArray t)) w.heap.size t xs := heap_alloc_new _ _
theorem Blk.alloc {w : World} {b : Nat} {t : TypeId} {xs : List Int} (h : Blk w b t xs) (o : Obj) : Blk (w.alloc o) b t xs := h.of (Below.heap_alloc _ _ _ h.lt)
theorem Blk.drew {w : World} {b : Nat} {t : TypeId} {xs : List Int} (h : Blk w b t xs) : Blk w.drew b t xs := h
theorem Blk.below {w w' : World} {B b : Nat} {t : TypeId} {xs : List Int} (h : Blk w b t xs) (hb : Below B w w') (hlt : b < B) : Blk w' b t xs := h.of (hb.block b hlt)


section laws
variable {P : Program} {ops : Array Oper} {rest : List Oper} {o : Oper} {a : Act} {w : World} {Q : Exit → Act → World → Prop}

theorem wpList_val (hgd : o.guard = none) {v : Value} {w' : World} (hr : (execOp a.eval o).run P w = .ok (.value v) w') (h : wpList P ops Q rest (a.put o.dst v) w') : wpList P ops Q (o :: rest) a w :=
  wpList_plain hgd fun K hK => by unfold Oper.wp; rw [hr]; exact hK _ _ h
theorem wpList_act (hgd : o.guard = none) {w' : World} (hr : (execOp a.eval o).run P w = .ok .skip w') (h : wpList P ops Q rest (a.put o.dst undef) w') : wpList P ops Q (o :: rest) a w :=
  wpList_plain hgd fun K hK => by unfold Oper.wp; rw [hr]; exact hK _ _ h

/-- a new variable that holds an array -/
theorem wpList_box_arr (hgd : o.guard = none) (t : TypeId) (x : Operand) (ho : o.op = .box t x) (xs : List Int) (hx : a.eval x = arr xs)
    (h : ∀ (b : Nat) (w' : World), w.heap.size ≤ b → b < w'.heap.size → Below w.heap.size w w' → Blk w' b t xs → wpList P ops Q rest (a.put o.dst (.pointer (some ⟨b, 0, none⟩))) w') : wpList P ops Q (o :: rest) a w := by
  refine wpList_val hgd (v := .pointer (some ⟨w.heap.size, 0, none⟩)) (w' := w.alloc (.cells (ints xs).toArray t)) ?_ (h _ _ (Nat.le_refl _) (by simp) ((Below.refl _ _).alloc (Nat.le_refl _) _) (Blk.new _ _ _))
  unfold execOp
  simp only [ho, hx]
  rfl
/-- a new array, all zero -/
theorem wpList_alloc_arr (hgd : o.guard = none) (t : TypeId) (ho : o.op = .alloc t) (xs : List Int) (hz : ∀ w, (zeroValue t).run P w = .ok (arr xs) w)
    (h : ∀ (b : Nat) (w' : World), w.heap.size ≤ b → b < w'.heap.size → Below w.heap.size w w' → Blk w' b t xs → wpList P ops Q rest (a.put o.dst (.pointer (some ⟨b, 0, none⟩))) w') : wpList P ops Q (o :: rest) a w := by
  refine wpList_val hgd (v := .pointer (some ⟨w.heap.size, 0, none⟩)) (w' := w.alloc (.cells (ints xs).toArray t)) ?_ (h _ _ (Nat.le_refl _) (by simp) ((Below.refl _ _).alloc (Nat.le_refl _) _) (Blk.new _ _ _))
  unfold execOp
  simp only [ho, Instr.alloc, Sem.run_bind, hz, Result.andThen_ok]
  rfl

theorem ints_drop_take (xs : List Int) (k n : Nat) : ints ((xs.drop k).take n) = ((ints xs).drop k).take n := by simp [ints]
theorem range_take {w : World} {b o : Nat} {xs : List Int} (h : w.rangeAt b o (ints xs)) (n : Nat) : w.rangeAt b o (ints (xs.take n)) := fun j v hv => by
  refine h j v ?_
  simp only [ints, List.map_take] at hv
  rw [List.getElem?_take] at hv
  split at hv
  · exact hv
  · cases hv

/-- an array is loaded out of a row -/
theorem wpList_load_arr (hgd : o.guard = none) (t : TypeId) (x : Operand) (ho : o.op = .load t x) (b k n : Nat) (hx : a.eval x = .pointer (some ⟨b, k, none⟩)) (d : TypeDesc) (hu : P.underlying t = some d) (hd : d.isRow = true)
    (hi : (P.info? t).map (·.size) = some n) {t' : TypeId} {xs : List Int} (hb : Blk w b t' xs) (hn : k + n ≤ xs.length) (ys : List Int) (hys : ys = (xs.drop k).take n)
    (h : wpList P ops Q rest (a.put o.dst (arr ys)) w) : wpList P ops Q (o :: rest) a w := by
  subst hys
  exact wpList_load_mid hgd t x ho b k hx (ints ((xs.drop k).take n)) d (range_take (hb.range k) n) hu hd (by rw [hi, ints_len]; simp; omega) h

/-- what a row holds behind a store of a piece -/
def put (xs ys : List Int) (k : Nat) : List Int := xs.take k ++ ys ++ xs.drop (k + ys.length)
theorem put_len (xs ys : List Int) (k : Nat) (h : k + ys.length ≤ xs.length) : (put xs ys k).length = xs.length := by simp [put]; omega
theorem put_all (xs ys : List Int) (h : xs.length = ys.length) : put xs ys 0 = ys := by simp [put, ← h]

theorem heap_setCells (b : Nat) (t : TypeId) : ∀ (vs : List Value) (k : Nat) (w : World) (cs : List Value), w.heap[b]? = some (.cells cs.toArray t (0, 0)) → k + vs.length ≤ cs.length →
    (w.setCells b k vs).heap[b]? = some (.cells (cs.take k ++ vs ++ cs.drop (k + vs.length)).toArray t (0, 0))
  | [], k, w, cs, h, hk => by simpa [World.setCells] using h
  | v :: r, k, w, cs, h, hk => by
    have h1 := heap_setCell_same w b k cs.toArray t v h
    have hk' : k < cs.length := by simp at hk; omega
    have ih := heap_setCells b t r (k + 1) (w.setCell ⟨b, k, none⟩ v) (cs.set k v) (by rw [h1]; simp) (by simp at hk ⊢; omega)
    rw [World.setCells, ih]
    congr 3
    rw [List.take_succ_eq_append_getElem (by simpa using hk'), List.getElem_set_self, List.take_set_of_le (Nat.le_refl _), List.drop_set_of_lt (by omega)]
    simp [Nat.add_comm, Nat.add_left_comm]
theorem heap_setCells_other (b : Nat) : ∀ (vs : List Value) (k : Nat) (w : World) (j : Nat), j ≠ b → (w.setCells b k vs).heap[j]? = w.heap[j]?
  | [], _, _, _, _ => rfl
  | v :: r, k, w, j, h => by rw [World.setCells, heap_setCells_other b r (k + 1) _ j h]; exact Below.heap_setCell _ _ _ _ h
theorem meta_setCells (b : Nat) : ∀ (vs : List Value) (k : Nat) (w : World), (w.setCells b k vs).os = w.os ∧ (w.setCells b k vs).tape = w.tape ∧ (w.setCells b k vs).output = w.output ∧ (w.setCells b k vs).heap.size = w.heap.size
  | [], _, _ => ⟨rfl, rfl, rfl, rfl⟩
  | v :: r, k, w => by
    rw [World.setCells]
    have ih := meta_setCells b r (k + 1) (w.setCell ⟨b, k, none⟩ v)
    exact ⟨ih.1, ih.2.1, ih.2.2.1, by rw [ih.2.2.2]; simp⟩
theorem below_setCells {B b : Nat} (w : World) (hb : B ≤ b) (vs : List Value) (k : Nat) : Below B w (w.setCells b k vs) :=
  have m := meta_setCells b vs k w
  ⟨m.1, m.2.1, m.2.2.1, by rw [m.2.2.2]; exact Nat.le_refl _, fun j hj => heap_setCells_other b vs k w j (by omega)⟩
theorem Blk.setCells {w : World} {b : Nat} {t : TypeId} {xs : List Int} (h : Blk w b t xs) (ys : List Int) (k : Nat) (hk : k + ys.length ≤ xs.length) : Blk (w.setCells b k (ints ys)) b t (put xs ys k) := by
  unfold Blk
  rw [heap_setCells b t (ints ys) k w (ints xs) h (by simpa [ints_len] using hk)]
  simp [ints, put]

/-- only block b is turned -/
def Only (b : Nat) (w w' : World) : Prop := w'.heap.size = w.heap.size ∧ (∀ j, j ≠ b → w'.heap[j]? = w.heap[j]?) ∧ ∀ B, B ≤ b → Below B w w'
theorem only_setCells (w : World) (b : Nat) (vs : List Value) (k : Nat) : Only b w (w.setCells b k vs) := ⟨(meta_setCells b vs k w).2.2.2, heap_setCells_other b vs k w, fun B hB => below_setCells w hB vs k⟩

/-- an array is stored into a row -/
theorem wpList_store_arr (hgd : o.guard = none) (t : TypeId) (x y : Operand) (ho : o.op = .store t x y) (b k : Nat) (ys : List Int) (hx : a.eval x = .pointer (some ⟨b, k, none⟩)) (hy : a.eval y = arr ys)
    (hi : (P.info? t).map (·.size) = some ys.length) {t' : TypeId} {xs : List Int} (hb : Blk w b t' xs) (hn : k + ys.length ≤ xs.length)
    (h : ∀ w', Only b w w' → Blk w' b t' (put xs ys k) → wpList P ops Q rest (a.put o.dst undef) w') : wpList P ops Q (o :: rest) a w := by
  refine wpList_store_mid hgd t x y ho b k (ints ys).toArray hx hy ?_ (by rw [hi, ints_size]) (all_oneCell_toArray (ints_one ys)) ?_
  · rw [ints_size]; exact hb.there k ys.length hn
  · exact h _ (only_setCells _ _ _ _) (hb.setCells ys k hn)
end laws

end Go.Proofs.Ytmnjmghlkiljhaa.sk
/- Contracts of the program's rows of counts, which are arrays: each answers as a plain function on lists of 16 integers; only new memory is written. -/
namespace Go.Proofs.Ytmnjmghlkiljhaa.sk
open Go.ChangeShapes Go.WideShapes Go.ChangeAt Go.RowKit
set_option linter.unusedVariables false

def bnd (x : Int) : Int := min (max x 0) 15
set_option maxRecDepth 100000 in
theorem size52 : (Try.prog.info? 93).map (·.size) = some 16 := by kernel_rfl
set_option maxRecDepth 100000 in
theorem size54 : (Try.prog.info? 95).map (·.size) = some 64 := by kernel_rfl
set_option maxRecDepth 100000 in
theorem zero52 (w : World) : (zeroValue 93).run Try.prog w = .ok (arr (List.replicate 16 0)) w := Try.zeroValue93 w
set_option maxRecDepth 100000 in
theorem zero54 (w : World) : (zeroValue 95).run Try.prog w = .ok (arr (List.replicate 64 0)) w := Try.zeroValue95 w

set_option maxRecDepth 100000 in
theorem all16 {xs : List Int} (hx : xs.length = 16) : xs = (xs.drop 0).take 16 := by simp [← hx]
set_option maxRecDepth 100000 in
theorem all64 {xs : List Int} (hx : xs.length = 64) : xs = (xs.drop 0).take 64 := by simp [← hx]

section idx
variable {P : Program} {ops : Array Oper} {rest : List Oper} {o : Oper} {a : Act} {w : World} {Q : Exit → Act → World → Prop}
set_option maxRecDepth 100000 in
theorem wpList_index_int (hgd : o.guard = none) (t : TypeId) (x y : Operand) (ho : o.op = .index t x y) (xs : List Int) (i n : Nat) (hx : a.eval x = arr xs) (hy : a.eval y = .int .i64 i)
    {e : TypeId} (hu : P.underlying t = some (.array n e)) (hz : ∀ w, (sizeOf e).run P w = .ok 1 w) (ha : ∀ w, (isAgg e).run P w = .ok false w) (hi : i < n) (hn : xs.length = n) (z : Int) (hzz : Hid (xs.getD i 0 = z))
    (h : wpList P ops Q rest (a.put o.dst (.int .i64 z)) w) : wpList P ops Q (o :: rest) a w := by
  obtain rfl := hzz.out
  refine wpList_val hgd ?_ h
  have h1 : (0 : Int) ≤ (i : Int) ∧ (i : Int) < (n : Int) := by omega
  have h2 : (ints xs)[i]? = some (.int .i64 (xs.getD i 0)) := by simp [ints, List.getD_eq_getElem?_getD, hn, hi]
  unfold execOp
  simp [ho, hx, hy, Instr.index, asIntOf, run_underlying hu, part, hz, ha, h2, hi]
set_option maxRecDepth 100000 in
theorem wpList_index_arr (hgd : o.guard = none) (t : TypeId) (x y : Operand) (ho : o.op = .index t x y) (xs : List Int) (i n m : Nat) (hx : a.eval x = arr xs) (hy : a.eval y = .int .i64 i)
    {e : TypeId} (hu : P.underlying t = some (.array n e)) (hz : ∀ w, (sizeOf e).run P w = .ok m w) (ha : ∀ w, (isAgg e).run P w = .ok true w) (hi : i < n) (ys : List Int) (hys : (xs.drop (i * m)).take m = ys)
    (h : wpList P ops Q rest (a.put o.dst (arr ys)) w) : wpList P ops Q (o :: rest) a w := by
  subst hys
  refine wpList_val hgd ?_ h
  have h2 : (ints xs).toArray.extract (i * m) (i * m + m) = (ints ((xs.drop (i * m)).take m)).toArray := by
    simp [ints, List.map_drop, List.map_take]
  unfold execOp
  simp [ho, hx, hy, Instr.index, asIntOf, run_underlying hu, part, hz, ha, hi]
  simpa using h2
end idx

/-- the first i counts are done -/
def upto (f : Int → Int) (xs : List Int) (i : Nat) : List Int := (xs.take i).map f ++ xs.drop i
set_option maxRecDepth 100000 in
theorem upto_len (f : Int → Int) (xs : List Int) (i : Nat) : (upto f xs i).length = xs.length := by simp [upto]; omega
set_option maxRecDepth 100000 in
theorem upto_zero (f : Int → Int) (xs : List Int) : upto f xs 0 = xs := by simp [upto]
set_option maxRecDepth 100000 in
theorem upto_all (f : Int → Int) (xs : List Int) (i : Nat) (h : xs.length ≤ i) : upto f xs i = xs.map f := by
  simp [upto, List.take_of_length_le h, List.drop_eq_nil_of_le h]
set_option maxRecDepth 100000 in
theorem upto_step (f : Int → Int) (xs : List Int) (i : Nat) (h : i < xs.length) : (upto f xs i).set i (f (xs.getD i 0)) = upto f xs (i + 1) := by
  apply List.ext_getElem?
  intro j
  simp only [upto, List.getElem?_set, List.getElem?_append, List.length_map, List.length_take, List.length_append, List.length_drop, List.getElem?_map, List.getElem?_take, List.getElem?_drop]
  have hd : xs.getD i 0 = xs[i] := by simp [List.getD_eq_getElem?_getD, h]
  have hm : min i xs.length = i := by omega
  have hm1 : min (i + 1) xs.length = i + 1 := by omega
  rw [hm, hm1]
  by_cases e : i = j
  · subst e
    rw [if_pos rfl, if_pos (by omega), if_pos (by omega), if_pos (by omega), hd]
    simp [h]
  · rw [if_neg e]
    by_cases l : j < i
    · rw [if_pos l, if_pos l, if_pos (by omega), if_pos (by omega)]
    · rw [if_neg l, if_neg (by omega), show i + (j - i) = i + 1 + (j - (i + 1)) by omega]

set_option maxRecDepth 100000 in
theorem bnd_if (x : Int) : (if 15 < if x < 0 then 0 else x then 15 else if x < 0 then 0 else x) = bnd x := by
  unfold bnd
  split <;> split at * <;> omega
set_option maxRecDepth 100000 in
theorem row_ret {fn : Func} {p : Tmp} {ty : TypeId} (h : fn.results = #[.cell p ty]) {R : Ending → World → Prop} {a : Act} {w : World} {b : Nat} {t : TypeId} {xs : List Int} {n : Nat} {e : TypeId}
    (hp : a.tmps.getD p undef = .pointer (some ⟨b, 0, none⟩)) (hb : Blk w b t xs) (hu : Try.prog.underlying ty = some (.array n e))
    (hi : (Try.prog.info? ty).map (·.size) = some xs.length) (hdf : a.defers = []) (hR : R (.returned (arr xs)) w) : bodyPost Try.prog fn R .ret a w :=
  bodyPost_ret (results_cell_row h a.tmps w b t _ _ _ hp hb hu rfl (by rw [hi, ints_size])) hdf hR

set_option maxRecDepth 100000 in
/-- the two functions that go along a row, each count by itself -/
theorem bounded_any (xs : List Int) (hx : xs.length = 16) (w : World) :
    Calls Try.prog 128 #[arr xs] w fun e w' => e = .returned (arr (xs.map bnd)) ∧ Below w.heap.size w w' := by
  go_enter Try.func128, Try.ntmps128
  go_wp2_with (first | (refine wpList_box_arr rfl 93 _ rfl xs rfl ?_; intro b w1 hb hw1 hB1 hK1) | (refine wpList_alloc_arr rfl 93 rfl _ zero52 ?_; intro b2 w2 hb2 hw2 hB2 hK2; replace hK1 := hK1.below hB2 hw1) | (refine wpList_load_arr rfl 93 _ rfl b 0 16 rfl _ Try.underlying93 rfl size52 hK1 (by omega) xs (all16 hx) ?_))
  have hB : Below w.heap.size w w2 := hB1.trans (hB2.mono hB1.size)
  have hne : b2 ≠ b := by omega
  go_loopw [6] (fun v wr => ∃ i : Nat, i ≤ 16 ∧ v = .int .i64 i ∧ Blk wr b 93 (upto bnd xs i) ∧ Blk wr b2 93 (List.replicate 16 0) ∧ Below w.heap.size w wr) (fun v _ => 16 - (intOf v).toNat)
  case atStart => exact ⟨0, by omega, rfl, by rw [upto_zero]; exact hK1, hK2, hB⟩
  case round =>
    obtain ⟨i, hi, rfl, hb1, hb2', hBr⟩ := hrel
    by_cases hlt : i < 16
    · have hc := hb1.cell i (by rw [upto_len]; omega)
      have hf := hb1.frozen i
      obtain ⟨z, hz⟩ : ∃ z, Hid (xs.getD i 0 = z) := ⟨_, rfl⟩
      go_wp2_with (first | (refine wpList_index_int rfl 93 _ _ rfl xs i 16 rfl rfl Try.underlying93 Try.sizeOf2 Try.isAgg2 hlt hx z hz ?_))
      go_roundw
      case rel =>
        rw [bnd_if]
        refine ⟨i + 1, by omega, by go_num, ?_, hb2'.of (heap_setCell_other _ _ _ _ hne), hBr.setCell hb _⟩
        rw [← upto_step bnd xs i (by omega), hz.out]
        exact hb1.set i _
      case measure => simp [intOf]; omega
    · obtain rfl : i = 16 := by omega
      rw [upto_all _ _ _ (by omega)] at hb1
      have hlen : (xs.map bnd).length = 16 := by simp [hx]
      go_wp2_with (first | (refine wpList_load_arr rfl 93 _ rfl b 0 16 rfl _ Try.underlying93 rfl size52 hb1 (by omega) (xs.map bnd) (all16 hlen) ?_) | (refine wpList_store_arr rfl 93 _ _ rfl b2 0 (xs.map bnd) rfl rfl (by rw [hlen]; exact size52) hb2' (by rw [hlen]; simp) ?_; intro w3 hO3 hK3; rw [put_all _ _ (by rw [hlen]; simp)] at hK3))
      refine row_ret rfl rfl hK3 Try.underlying93 (by rw [hlen]; exact size52) rfl ⟨rfl, hBr.trans (hO3.2.2 _ (by omega))⟩


set_option maxRecDepth 100000 in
theorem run_eqItems_ints {P : Program} (w : World) (d : Nat) {e : TypeId} (hu : P.underlying e = some (.int .i64)) (xs ys : List Int) : ∀ (is : List Nat), (∀ i ∈ is, i < xs.length ∧ i < ys.length) →
    (Op.eqItems (d + 1) e 1 (ints xs).toArray (ints ys).toArray is).run P w = .ok (is.all fun i => xs.getD i 0 == ys.getD i 0) w
  | [], _ => by simp [Op.eqItems]
  | i :: is, h => by
    have h0 := h i (by simp)
    have ih := run_eqItems_ints w d hu xs ys is (fun j hj => h j (by simp [hj]))
    have ha : (isAgg e).run P w = .ok false w := by unfold isAgg; rw [Sem.run_bind, run_underlying hu w]; rfl
    have p1 : (part e (ints xs).toArray (i * 1)).run P w = .ok (.int .i64 (xs.getD i 0)) w := by
      simp [part, ha, ints, h0.1]
    have p2 : (part e (ints ys).toArray (i * 1)).run P w = .ok (.int .i64 (ys.getD i 0)) w := by
      simp [part, ha, ints, h0.2]
    have p3 : (Op.equalIn (d + 1) e (.int .i64 (xs.getD i 0)) (.int .i64 (ys.getD i 0))).run P w = .ok (xs.getD i 0 == ys.getD i 0) w := by
      simp [Op.equalIn, run_underlying hu]
    simp only [Op.eqItems, Sem.run_bind, p1, p2, p3, Result.andThen_ok, List.all_cons]
    cases hc : (xs.getD i 0 == ys.getD i 0)
    · simp
    · simpa [hc] using ih
set_option maxRecDepth 100000 in
theorem all_eq (xs ys : List Int) (n : Nat) (hx : xs.length = n) (hy : ys.length = n) : ((List.range n).all fun i => xs.getD i 0 == ys.getD i 0) = decide (xs = ys) := by
  rw [Bool.eq_iff_iff]
  simp only [List.all_eq_true, List.mem_range, beq_iff_eq, decide_eq_true_eq]
  constructor
  · intro h
    apply List.ext_getElem (by omega)
    intro i h1 h2
    have := h i (by omega)
    simpa [List.getD_eq_getElem?_getD, h1, h2] using this
  · rintro rfl i _; rfl
set_option maxRecDepth 100000 in
theorem cells2 : Try.prog.cellsOf 2 = 1 := by kernel_rfl
set_option maxRecDepth 100000 in
theorem equal52 (xs ys : List Int) (hx : xs.length = 16) (hy : ys.length = 16) (w : World) : (Op.equal 93 (arr xs) (arr ys)).run Try.prog w = .ok (decide (xs = ys)) w := by
  obtain ⟨i, hi⟩ := info_of_underlying Try.underlying2
  show (Op.equalIn (9999 + 1) _ _ _).run Try.prog w = _
  rw [run_equalIn_array w 9999 _ _ Try.underlying93 hi, cells2, run_eqItems_ints w 9998 Try.underlying2 xs ys _ (fun j hj => by simp at hj; omega), all_eq xs ys 16 hx hy]

set_option maxRecDepth 100000 in
theorem right_any (xs : List Int) (hx : xs.length = 16) (w : World) :
    Calls Try.prog 115 #[arr xs] w fun e w' => e = .returned (.bool (decide (xs = xs.map bnd))) ∧ Below w.heap.size w w' := by
  have heq := equal52 xs (xs.map bnd) hx (by simp [hx])
  have hu := Try.underlying93
  have hi : (Try.prog.info? 93).map (·.size) = some (ints xs).length := by rw [ints_len, hx]; exact size52
  have hl : (ints xs).length = 16 := by rw [ints_len, hx]
  have h1 := ints_one xs
  go_enter Try.func115, Try.ntmps115
  go_wp2_with (first | (refine wpList_box_arr rfl 93 _ rfl xs rfl ?_; intro b w1 hb hw1 hB1 hK1))
  refine wp_region_held_drew (S := fun w' => w'.rangeAt b 0 (ints xs) ∧ Below w.heap.size w w') (by kernel_rfl) ⟨hK1.drew.range0, hB1.drew⟩ (fun hHeld => ?_)
  refine wpAnyH_take (i := 0) (v := arr xs) rfl (by kernel_rfl) (by kernel_rfl) (by kernel_rfl) (fun _ _ _ h => h) (yieldsIf_load_mid rfl _ _ rfl b 0 rfl (ints xs) _ (fun w h => h.1) hu rfl hi) hHeld ?_
  refine wpAnyH_take (i := 1) (v := arr xs) rfl (by kernel_rfl) (by kernel_rfl) (by kernel_rfl) (fun _ _ _ h => h) (yieldsIf_load_mid rfl _ _ rfl b 0 rfl (ints xs) _ (fun w h => h.1) hu rfl hi) hHeld ?_
  refine wpAnyH_ready (rs := [2]) (by kernel_rfl) (by simp) ?_
  refine AllReadyH.cons rfl (fun K hK => ?_) AllReadyH.nil
  go_simp
  go_at_call 128
  refine (bounded_any xs hx _).mono ?_
  rintro e w2 ⟨rfl, hB2⟩
  have hS2 : w2.rangeAt b 0 (ints xs) ∧ Below w.heap.size w w2 := ⟨(hK1.drew.below hB2 hw1).range0, hHeld.2.trans (hB2.mono hB1.size)⟩
  refine hK.out _ _ hS2 (fun _ => ?_)
  refine wpAnyH_take (i := 3) (v := .bool (decide (xs = xs.map bnd))) rfl (by kernel_rfl) (by kernel_rfl) (by kernel_rfl) (fun _ _ _ h => h) (.inl ⟨rfl, fun w h => ?_⟩) hS2 ?_
  · unfold execOp
    simp [Act.eval, eqGuard, binOp, equal52 xs (xs.map bnd) hx (by simp [hx])]
  refine wpAnyH_take (i := 4) (v := .bool (decide (xs = xs.map bnd))) rfl (by kernel_rfl) (by kernel_rfl) (by kernel_rfl) (fun _ _ _ h => h) (.inl ⟨rfl, fun w h => ?_⟩) hS2 ?_
  · unfold execOp
    simp [Act.eval, Act.put]
  refine wpAnyH_done (by kernel_rfl) ?_ _
  change Exit.then _ _ Exit.normal { tmps := #[arr xs, .pointer (some ⟨b, 0, none⟩), .bool (decide (xs = xs.map bnd)), arr xs, arr xs, arr (xs.map bnd), .bool (decide (xs = xs.map bnd))], defers := [] } w2
  go_wp2
  go_ret
  exact ⟨rfl, hS2.2⟩


set_option maxRecDepth 100000 in
theorem set_lt {xs : List Int} (p : Nat) (x : Int) : (xs.set p x).length = xs.length := by simp
def raise (xs : List Int) (p : Nat) : List Int := (xs.set p (xs.getD p 0 + 1)).map bnd
set_option maxRecDepth 100000 in
theorem raise_len (xs : List Int) (p : Nat) : (raise xs p).length = xs.length := by simp [raise]
set_option maxRecDepth 100000 in
theorem raised_any (xs : List Int) (hx : xs.length = 16) (hr : ∀ x ∈ xs, 0 ≤ x ∧ x ≤ 15) (p : Nat) (hp : p < 16) (w : World) :
    Calls Try.prog 97 #[arr xs, .int .i64 p] w fun e w' => e = .returned (arr (raise xs p)) ∧ Below w.heap.size w w' := by
  have hp' : p < xs.length := by omega
  obtain ⟨z, hz0⟩ : ∃ z, xs[p] = z := ⟨_, rfl⟩
  have hz : Hid (xs[p] = z) := hz0
  clear hz0
  have hz2 : Hid (xs.getD p 0 = z) := by unfold Hid; rw [← hz.out]; simp [List.getD_eq_getElem?_getD, hp']
  have hzb : 0 ≤ z ∧ z ≤ 15 := by rw [← hz.out]; exact hr _ (List.getElem_mem hp')
  have hl1 : (xs.set p (z + 1)).length = 16 := by simp [hx]
  have hl2 : (raise xs p).length = 16 := by rw [raise_len, hx]
  have hra : Hid ((xs.set p (z + 1)).map bnd = raise xs p) := by unfold Hid raise; rw [hz2.out]
  go_enter Try.func97, Try.ntmps97
  go_wp2_with (first | (refine wpList_box_arr rfl 93 _ rfl xs rfl ?_; intro b w1 hb hw1 hB1 hK1) | (refine wpList_alloc_arr rfl 93 rfl _ zero52 ?_; intro b2 w2 hb2 hw2 hB2 hK2; replace hK1 := hK1.below hB2 hw1; have hc := hK1.cell p hp'; rw [hz.out] at hc; have hf := hK1.frozen p; have hK3 := hK1.set p (z + 1); have hne : b2 ≠ b := (by omega); have hK4 : Blk (w2.setCell ⟨b, p, none⟩ (.int .i64 (z + 1))) b2 93 _ := hK2.of (heap_setCell_other _ _ _ _ hne); clear hK1 hK2) | (refine wpList_load_arr rfl 93 _ rfl b 0 16 rfl _ Try.underlying93 rfl size52 hK3 (by omega) _ (all16 hl1) ?_) | (go_at_call 128; refine (bounded_any _ hl1 _).mono ?_; rintro e w5 ⟨he, hB5⟩; rw [hra.out] at he; subst he; replace hK4 := hK4.below hB5 (by simpa using hw2)) | (refine wpList_store_arr rfl 93 _ _ rfl b2 0 (raise xs p) rfl rfl (by rw [hl2]; exact size52) hK4 (by rw [hl2]; simp) ?_; intro w6 hO6 hK6; rw [put_all _ _ (by rw [hl2]; simp)] at hK6))
  refine row_ret rfl rfl hK6 Try.underlying93 (by rw [hl2]; exact size52) rfl ⟨rfl, ?_⟩
  have hB : Below w.heap.size w w2 := hB1.trans (hB2.mono hB1.size)
  exact ((hB.setCell hb _).trans (hB5.mono (by simpa using hB.size))).trans (hO6.2.2 _ (by omega))

def half (x : Int) : Int := x / 2
set_option maxRecDepth 100000 in
theorem halved_any (xs : List Int) (hx : xs.length = 16) (hr : ∀ x ∈ xs, 0 ≤ x ∧ x ≤ 15) (w : World) :
    Calls Try.prog 129 #[arr xs] w fun e w' => e = .returned (arr (xs.map half)) ∧ Below w.heap.size w w' := by
  go_enter Try.func129, Try.ntmps129
  go_wp2_with (first | (refine wpList_box_arr rfl 93 _ rfl xs rfl ?_; intro b w1 hb hw1 hB1 hK1) | (refine wpList_alloc_arr rfl 93 rfl _ zero52 ?_; intro b2 w2 hb2 hw2 hB2 hK2; replace hK1 := hK1.below hB2 hw1) | (refine wpList_load_arr rfl 93 _ rfl b 0 16 rfl _ Try.underlying93 rfl size52 hK1 (by omega) xs (all16 hx) ?_))
  have hB : Below w.heap.size w w2 := hB1.trans (hB2.mono hB1.size)
  have hne : b2 ≠ b := by omega
  go_loopw [6] (fun v wr => ∃ i : Nat, i ≤ 16 ∧ v = .int .i64 i ∧ Blk wr b 93 (upto half xs i) ∧ Blk wr b2 93 (List.replicate 16 0) ∧ Below w.heap.size w wr) (fun v _ => 16 - (intOf v).toNat)
  case atStart => exact ⟨0, by omega, rfl, by rw [upto_zero]; exact hK1, hK2, hB⟩
  case round =>
    obtain ⟨i, hi, rfl, hb1, hb2', hBr⟩ := hrel
    by_cases hlt : i < 16
    · have hc := hb1.cell i (by rw [upto_len]; omega)
      have hf := hb1.frozen i
      obtain ⟨z, hz⟩ : ∃ z, Hid (xs.getD i 0 = z) := ⟨_, rfl⟩
      have hzb : 0 ≤ z ∧ z ≤ 15 := by rw [← hz.out]; exact hr _ (by rw [List.getD_eq_getElem?_getD, List.getElem?_eq_getElem (by omega : i < xs.length)]; exact List.getElem_mem _)
      go_wp2_with (first | (refine wpList_index_int rfl 93 _ _ rfl xs i 16 rfl rfl Try.underlying93 Try.sizeOf2 Try.isAgg2 hlt hx z hz ?_))
      go_roundw
      case rel =>
        refine ⟨i + 1, by omega, by go_num, ?_, hb2'.of (heap_setCell_other _ _ _ _ hne), hBr.setCell hb _⟩
        rw [← upto_step half xs i (by omega), hz.out]
        exact hb1.set i _
      case measure => simp [intOf]; omega
    · obtain rfl : i = 16 := by omega
      rw [upto_all _ _ _ (by omega)] at hb1
      have hlen : (xs.map half).length = 16 := by simp [hx]
      go_wp2_with (first | (refine wpList_load_arr rfl 93 _ rfl b 0 16 rfl _ Try.underlying93 rfl size52 hb1 (by omega) (xs.map half) (all16 hlen) ?_) | (refine wpList_store_arr rfl 93 _ _ rfl b2 0 (xs.map half) rfl rfl (by rw [hlen]; exact size52) hb2' (by rw [hlen]; simp) ?_; intro w3 hO3 hK3; rw [put_all _ _ (by rw [hlen]; simp)] at hK3))
      refine row_ret rfl rfl hK3 Try.underlying93 (by rw [hlen]; exact size52) rfl ⟨rfl, hBr.trans (hO3.2.2 _ (by omega))⟩

end Go.Proofs.Ytmnjmghlkiljhaa.sk
/- Slices of rows of integers in memory: how one is read, how one that a call made is owned, and what keeps them. -/
namespace Go.Proofs.Ytmnjmghlkiljhaa.sk
open Go.ChangeShapes Go.WideShapes Go.ChangeAt Go.RowKit
set_option linter.unusedVariables false

/-- the blocks from lo up to hi are as they were -/
def Same (lo hi : Nat) (w w' : World) : Prop := ∀ k, lo ≤ k → k < hi → w'.heap[k]? = w.heap[k]?
theorem Same.refl (lo hi : Nat) (w : World) : Same lo hi w w := fun _ _ _ => rfl
theorem Same.trans {lo hi : Nat} {a b c : World} (h : Same lo hi a b) (k : Same lo hi b c) : Same lo hi a c := fun j h1 h2 => (k j h1 h2).trans (h j h1 h2)
theorem Same.of_below {B lo hi : Nat} {w w' : World} (h : Below B w w') (hB : hi ≤ B) : Same lo hi w w' := fun k _ h2 => h.block k (by omega)
theorem Same.mono {lo hi lo' hi' : Nat} {w w' : World} (h : Same lo hi w w') (h1 : lo ≤ lo') (h2 : hi' ≤ hi) : Same lo' hi' w w' := fun k a b => h k (by omega) (by omega)

theorem range_of {w w' : World} {b o : Nat} {cs : List Value} (h : w.rangeAt b o cs) (e : w'.heap[b]? = w.heap[b]?) : w'.rangeAt b o cs := fun j v hv => by
  rw [World.cell?_of_block (w := w) e]; exact h j v hv
theorem there_of {w w' : World} {b o n : Nat} (h : w.there b o n) (e : w'.heap[b]? = w.heap[b]?) : w'.there b o n := fun j hj => by
  rw [World.cell?_of_block (w := w) e, World.frozen?_of_block (w := w) e]; exact h j hj

/-- the numbers xs are read at address a -/
def RowR (w : World) (lo hi : Nat) (a : Option Addr) (xs : List Int) : Prop :=
  xs.length ≤ maxLen ∧ (xs = [] ∨ ∃ b off, a = some ⟨b, off, none⟩ ∧ lo ≤ b ∧ b < hi ∧ w.rangeAt b off (ints xs))
/-- the rows R are read at the slice v -/
def Rd (w : World) (lo hi : Nat) (v : Value) (R : List (List Int)) : Prop :=
  R.length ≤ maxLen ∧ ∃ a cap, v = .slice a R.length cap ∧ (R = [] ∨ ∃ b off, a = some ⟨b, off, none⟩ ∧ lo ≤ b ∧ b < hi ∧
    ∀ i (h : i < R.length), ∃ a' c', w.cell? ⟨b, off + i, none⟩ = some (.slice a' (R[i]).length c') ∧ RowR w lo hi a' R[i])

theorem RowR.keep {w w' : World} {lo hi : Nat} {a : Option Addr} {xs : List Int} (h : RowR w lo hi a xs) (s : Same lo hi w w') : RowR w' lo hi a xs := by
  obtain ⟨hl, h⟩ := h
  refine ⟨hl, ?_⟩
  rcases h with h | ⟨b, off, rfl, h1, h2, hr⟩
  · exact .inl h
  · exact .inr ⟨b, off, rfl, h1, h2, range_of hr (s b h1 h2)⟩
theorem RowR.wide {w : World} {lo hi lo' hi' : Nat} {a : Option Addr} {xs : List Int} (h : RowR w lo hi a xs) (h1 : lo' ≤ lo) (h2 : hi ≤ hi') : RowR w lo' hi' a xs := by
  obtain ⟨hl, h⟩ := h
  refine ⟨hl, ?_⟩
  rcases h with h | ⟨b, off, rfl, g1, g2, hr⟩
  · exact .inl h
  · exact .inr ⟨b, off, rfl, by omega, by omega, hr⟩
theorem Rd.keep {w w' : World} {lo hi : Nat} {v : Value} {R : List (List Int)} (h : Rd w lo hi v R) (s : Same lo hi w w') : Rd w' lo hi v R := by
  obtain ⟨hl, a, cap, rfl, h⟩ := h
  refine ⟨hl, a, cap, rfl, ?_⟩
  rcases h with h | ⟨b, off, rfl, h1, h2, hc⟩
  · exact .inl h
  · refine .inr ⟨b, off, rfl, h1, h2, fun i hi => ?_⟩
    obtain ⟨a', c', hcell, hr⟩ := hc i hi
    exact ⟨a', c', by rw [World.cell?_of_block (w := w) (s b h1 h2)]; exact hcell, hr.keep s⟩
theorem Rd.wide {w : World} {lo hi lo' hi' : Nat} {v : Value} {R : List (List Int)} (h : Rd w lo hi v R) (h1 : lo' ≤ lo) (h2 : hi ≤ hi') : Rd w lo' hi' v R := by
  obtain ⟨hl, a, cap, rfl, h⟩ := h
  refine ⟨hl, a, cap, rfl, ?_⟩
  rcases h with h | ⟨b, off, rfl, g1, g2, hc⟩
  · exact .inl h
  · refine .inr ⟨b, off, rfl, by omega, by omega, fun i hi => ?_⟩
    obtain ⟨a', c', hcell, hr⟩ := hc i hi
    exact ⟨a', c', hcell, hr.wide h1 h2⟩
theorem Rd.below {w w' : World} {lo hi B : Nat} {v : Value} {R : List (List Int)} (h : Rd w lo hi v R) (hb : Below B w w') (hB : hi ≤ B) : Rd w' lo hi v R := h.keep (.of_below hb hB)

/-- a row that may be written: it begins its block -/
def Row (w : World) (b : Nat) (xs : List Int) : Prop := b < w.heap.size ∧ w.rangeAt b 0 (ints xs) ∧ w.there b 0 xs.length
theorem Row.cell {w : World} {b : Nat} {xs : List Int} (h : Row w b xs) (i : Nat) (hi : i < xs.length) : w.cell? ⟨b, i, none⟩ = some (.int .i64 xs[i]) := by
  have := h.2.1 i (.int .i64 xs[i]) (by simp [ints, hi])
  simpa using this
theorem Row.frozen {w : World} {b : Nat} {xs : List Int} (h : Row w b xs) (i : Nat) (hi : i < xs.length) : w.frozen? ⟨b, i, none⟩ = false := by
  have := (h.2.2 i hi).2
  simpa using this
theorem Row.of {w w' : World} {b : Nat} {xs : List Int} (h : Row w b xs) (e : w'.heap[b]? = w.heap[b]?) (hs : b < w'.heap.size) : Row w' b xs := ⟨hs, range_of h.2.1 e, there_of h.2.2 e⟩
theorem lt_of_same {w w' : World} {b : Nat} (e : w'.heap[b]? = w.heap[b]?) (h : b < w.heap.size) : b < w'.heap.size := by
  rw [Array.getElem?_eq_getElem h] at e
  exact (Array.getElem?_eq_some_iff.1 e).1
theorem Row.of' {w w' : World} {b : Nat} {xs : List Int} (h : Row w b xs) (e : w'.heap[b]? = w.heap[b]?) : Row w' b xs := h.of e (lt_of_same e h.1)
theorem Blk.row {w : World} {b : Nat} {t : TypeId} {xs : List Int} (h : Blk w b t xs) : Row w b xs := ⟨h.lt, h.range0, h.there 0 _ (by omega)⟩
theorem Row.set {w : World} {b : Nat} {xs : List Int} (h : Row w b xs) (i : Nat) (hi : i < xs.length) (x : Int) : Row (w.setCell ⟨b, i, none⟩ (.int .i64 x)) b (xs.set i x) := by
  refine ⟨by simpa using h.1, fun j v hv => ?_, fun j hj => ?_⟩
  · rw [ints_get, List.getElem?_set] at hv
    simp only [Nat.zero_add]
    by_cases e : i = j
    · subst e
      rw [World.cell?_setCell_same _ _ _ (h.cell i hi)]
      simpa [hi] using hv
    · rw [World.cell?_setCell_other _ _ _ _ (by simp <;> omega)]
      rw [if_neg e] at hv
      have := h.2.1 j v (by rw [ints_get]; exact hv)
      simpa using this
  · have hj' : j < xs.length := by simpa using hj
    simp only [Nat.zero_add]
    rw [World.frozen?_setCell]
    refine ⟨?_, h.frozen j hj'⟩
    by_cases e : i = j
    · subst e; rw [World.cell?_setCell_same _ _ _ (h.cell i hi)]; rfl
    · rw [World.cell?_setCell_other _ _ _ _ (by simp <;> omega), h.cell j hj']; rfl

/-- rows that a call made: the outer row in block bo, row i in block B i, all apart -/
def OwnAt (w : World) (lo hi : Nat) (bo : Nat) (B C : Nat → Nat) (R : List (List Int)) : Prop :=
  (R ≠ [] → lo ≤ bo ∧ bo < hi) ∧ hi ≤ w.heap.size ∧ (∀ i j, i < R.length → j < R.length → i ≠ j → B i ≠ B j) ∧
  ∀ i (h : i < R.length), w.cell? ⟨bo, i, none⟩ = some (.slice (some ⟨B i, 0, none⟩) (R[i]).length (C i)) ∧ (R[i]).length ≤ maxLen ∧ lo ≤ B i ∧ B i < hi ∧ B i ≠ bo ∧ Row w (B i) R[i]
def Own (w : World) (lo hi : Nat) (v : Value) (R : List (List Int)) : Prop :=
  R.length ≤ maxLen ∧ ∃ a cap bo B C, v = .slice a R.length cap ∧ (R ≠ [] → a = some ⟨bo, 0, none⟩) ∧ OwnAt w lo hi bo B C R

theorem OwnAt.keep {w w' : World} {lo hi bo : Nat} {B C : Nat → Nat} {R : List (List Int)} (h : OwnAt w lo hi bo B C R) (s : Same lo hi w w') (hs : w.heap.size ≤ w'.heap.size) : OwnAt w' lo hi bo B C R := by
  obtain ⟨h0, h1, h2, h3⟩ := h
  refine ⟨h0, by omega, h2, fun i hi => ?_⟩
  obtain ⟨c1, c2, c3, c4, c5, c6⟩ := h3 i hi
  have hb := h0 (by intro e; subst e; simp at hi)
  exact ⟨by rw [World.cell?_of_block (w := w) (s bo hb.1 hb.2)]; exact c1, c2, c3, c4, c5, c6.of' (s _ c3 c4)⟩
theorem Own.keep {w w' : World} {lo hi : Nat} {v : Value} {R : List (List Int)} (h : Own w lo hi v R) (s : Same lo hi w w') (hs : w.heap.size ≤ w'.heap.size) : Own w' lo hi v R := by
  obtain ⟨hl, a, cap, bo, B, C, e, ha, ho⟩ := h
  exact ⟨hl, a, cap, bo, B, C, e, ha, ho.keep s hs⟩
theorem Own.below {w w' : World} {lo hi B : Nat} {v : Value} {R : List (List Int)} (h : Own w lo hi v R) (hb : Below B w w') (hB : hi ≤ B) : Own w' lo hi v R := h.keep (.of_below hb hB) hb.size
theorem Own.rd {w : World} {lo hi : Nat} {v : Value} {R : List (List Int)} (h : Own w lo hi v R) : Rd w lo hi v R := by
  obtain ⟨hl, a, cap, bo, B, C, rfl, ha, h0, h1, h2, h3⟩ := h
  refine ⟨hl, a, cap, rfl, ?_⟩
  by_cases e : R = []
  · exact .inl e
  · refine .inr ⟨bo, 0, ha e, (h0 e).1, (h0 e).2, fun i hi => ?_⟩
    obtain ⟨c1, c2, c3, c4, c5, c6⟩ := h3 i hi
    refine ⟨_, _, by simpa using c1, c2, ?_⟩
    by_cases e' : R[i] = []
    · exact .inl e'
    · exact .inr ⟨B i, 0, rfl, c3, c4, c6.2.1⟩
theorem Own.wide {w : World} {lo hi lo' hi' : Nat} {v : Value} {R : List (List Int)} (h : Own w lo hi v R) (h1 : lo' ≤ lo) (h2 : hi ≤ hi') (h3 : hi' ≤ w.heap.size) : Own w lo' hi' v R := by
  obtain ⟨hl, a, cap, bo, B, C, e, ha, g0, g1, g2, g3⟩ := h
  refine ⟨hl, a, cap, bo, B, C, e, ha, fun hn => ⟨by have := g0 hn; omega, by have := g0 hn; omega⟩, h3, g2, fun i hi => ?_⟩
  obtain ⟨c1, c2, c3, c4, c5, c6⟩ := g3 i hi
  exact ⟨c1, c2, by omega, by omega, c5, c6⟩
theorem own_nil (w : World) (lo hi : Nat) (hh : hi ≤ w.heap.size) : Own w lo hi (.slice none 0 0) [] :=
  ⟨by simp, none, 0, 0, fun _ => 0, fun _ => 0, rfl, fun h => absurd rfl h, fun h => absurd rfl h, hh, fun i j hi => by simp at hi, fun i hi => by simp at hi⟩

/-- one number of one row is written -/
theorem OwnAt.set {w : World} {lo hi bo : Nat} {B C : Nat → Nat} {R : List (List Int)} (h : OwnAt w lo hi bo B C R) (i : Nat) (hi' : i < R.length) (k : Nat) (hk : k < (R[i]).length) (x : Int) :
    OwnAt (w.setCell ⟨B i, k, none⟩ (.int .i64 x)) lo hi bo B C (R.set i ((R[i]).set k x)) := by
  obtain ⟨h0, h1, h2, h3⟩ := h
  have hne : R ≠ [] := by intro e; subst e; simp at hi'
  refine ⟨fun _ => h0 hne, by simpa using h1, fun a b ha hb => h2 a b (by simpa using ha) (by simpa using hb), fun j hj => ?_⟩
  have hj' : j < R.length := by simpa using hj
  obtain ⟨c1, c2, c3, c4, c5, c6⟩ := h3 j hj'
  obtain ⟨d1, d2, d3, d4, d5, d6⟩ := h3 i hi'
  have hcell : (w.setCell ⟨B i, k, none⟩ (.int .i64 x)).cell? ⟨bo, j, none⟩ = w.cell? ⟨bo, j, none⟩ := World.cell?_setCell_other _ _ _ _ (by simp <;> omega)
  by_cases e : i = j
  · subst e
    simp only [List.getElem_set_self, List.length_set]
    exact ⟨by rw [hcell]; exact c1, c2, c3, c4, c5, c6.set k hk x⟩
  · rw [List.getElem_set_ne e]
    exact ⟨by rw [hcell]; exact c1, c2, c3, c4, c5, c6.of (Below.heap_setCell _ _ _ _ (h2 j i hj' hi' (fun q => e q.symm))) (by simpa using c6.1)⟩
theorem OwnAt.keepOuter {w w' : World} {lo hi bo : Nat} {B C : Nat → Nat} {R : List (List Int)} (h : OwnAt w lo hi bo B C R) (s : ∀ k, lo ≤ k → k < hi → k ≠ bo → w'.heap[k]? = w.heap[k]?)
    (hc : ∀ j, j < R.length → w'.cell? ⟨bo, j, none⟩ = w.cell? ⟨bo, j, none⟩) (hs : w.heap.size ≤ w'.heap.size) : OwnAt w' lo hi bo B C R := by
  obtain ⟨h0, h1, h2, h3⟩ := h
  refine ⟨h0, by omega, h2, fun i hi => ?_⟩
  obtain ⟨c1, c2, c3, c4, c5, c6⟩ := h3 i hi
  exact ⟨by rw [hc i hi]; exact c1, c2, c3, c4, c5, c6.of' (s _ c3 c4 c5)⟩
/-- the outer row moves to another block -/
theorem OwnAt.move {w : World} {lo hi bo : Nat} {B C : Nat → Nat} {R : List (List Int)} (h : OwnAt w lo hi bo B C R) (bo' hi' : Nat) (h1 : lo ≤ bo') (h2 : bo' < hi') (h3 : hi ≤ hi') (h4 : hi' ≤ w.heap.size)
    (hn : ∀ j, j < R.length → B j ≠ bo') (hc : ∀ j (hj : j < R.length), w.cell? ⟨bo', j, none⟩ = some (.slice (some ⟨B j, 0, none⟩) (R[j]).length (C j))) : OwnAt w lo hi' bo' B C R := by
  obtain ⟨g0, g1, g2, g3⟩ := h
  refine ⟨fun _ => ⟨h1, h2⟩, h4, g2, fun i hi => ?_⟩
  obtain ⟨c1, c2, c3, c4, c5, c6⟩ := g3 i hi
  exact ⟨hc i hi, c2, c3, by omega, hn i hi, c6⟩
/-- one row more -/
theorem OwnAt.snoc {w : World} {lo hi hi' bo : Nat} {B C : Nat → Nat} {R : List (List Int)} (h : OwnAt w lo hi bo B C R) (h1 : lo ≤ bo) (h2 : bo < hi') (h3 : hi ≤ hi') (h4 : hi' ≤ w.heap.size)
    (b c : Nat) (xs : List Int) (hb : hi ≤ b) (hlo : lo ≤ b) (hb' : b < hi') (hne : b ≠ bo) (hl : xs.length ≤ maxLen) (hr : Row w b xs) (hcell : w.cell? ⟨bo, R.length, none⟩ = some (.slice (some ⟨b, 0, none⟩) xs.length c)) :
    OwnAt w lo hi' bo (fun j => if j = R.length then b else B j) (fun j => if j = R.length then c else C j) (R ++ [xs]) := by
  obtain ⟨g0, g1, g2, g3⟩ := h
  refine ⟨fun _ => ⟨h1, h2⟩, h4, fun i j hi hj hij => ?_, fun i hi => ?_⟩
  · simp only [List.length_append, List.length_cons, List.length_nil] at hi hj
    by_cases e1 : i = R.length
    · have e2 : j ≠ R.length := fun q => hij (by omega)
      have hB := (g3 j (by omega)).2.2.2.1
      simp only [e1, e2, if_true, if_false]; omega
    · by_cases e2 : j = R.length
      · have hB := (g3 i (by omega)).2.2.2.1
        simp only [e1, e2, if_true, if_false]; omega
      · simp only [e1, e2, if_false]; exact g2 i j (by omega) (by omega) hij
  · by_cases e1 : i = R.length
    · subst e1
      simp only [if_true, List.getElem_concat_length]
      exact ⟨hcell, hl, hlo, hb', hne, hr⟩
    · have hi' : i < R.length := by simp at hi; omega
      obtain ⟨c1, c2, c3, c4, c5, c6⟩ := g3 i hi'
      simp only [e1, if_false, List.getElem_append_left hi']
      exact ⟨c1, c2, c3, by omega, c5, c6⟩
theorem own_none (w : World) (lo hi bo : Nat) (B C : Nat → Nat) (hh : hi ≤ w.heap.size) : OwnAt w lo hi bo B C [] :=
  ⟨fun h => absurd rfl h, hh, fun i j hi => by simp at hi, fun i hi => by simp at hi⟩
theorem OwnAt.congr {w : World} {lo hi bo : Nat} {B C : Nat → Nat} {R R' : List (List Int)} (h : OwnAt w lo hi bo B C R) (e : R = R') : OwnAt w lo hi bo B C R' := e ▸ h

end Go.Proofs.Ytmnjmghlkiljhaa.sk
/- Contracts of the program's four rows of counts as one array: halved, laid out as lists, taken from a sketch. -/
namespace Go.Proofs.Ytmnjmghlkiljhaa.sk
open Go.ChangeShapes Go.WideShapes Go.ChangeAt Go.RowKit
set_option linter.unusedVariables false

set_option maxRecDepth 100000 in
theorem flat_len (m : Nat) : ∀ (R : List (List Int)), (∀ xs ∈ R, xs.length = m) → R.flatten.length = R.length * m
  | [], _ => by simp
  | x :: R, h => by
    simp only [List.flatten_cons, List.length_append, flat_len m R (fun y hy => h y (by simp [hy])), h x (by simp), List.length_cons, Nat.add_mul]
    omega
set_option maxRecDepth 100000 in
theorem flat_chunk (m : Nat) : ∀ (R : List (List Int)) (h : ∀ xs ∈ R, xs.length = m) (i : Nat) (hi : i < R.length), (R.flatten.drop (i * m)).take m = R[i]
  | x :: R, h, 0, hi => by
    have := h x (by simp)
    simp [← this]
  | x :: R, h, i + 1, hi => by
    have hx := h x (by simp)
    have ih := flat_chunk m R (fun y hy => h y (by simp [hy])) i (by simpa using hi)
    rw [List.flatten_cons, List.getElem_cons_succ, ← ih, Nat.add_mul, Nat.one_mul, Nat.add_comm, ← List.drop_drop, ← hx, List.drop_left]
set_option maxRecDepth 100000 in
theorem flat_put (m : Nat) : ∀ (R : List (List Int)) (h : ∀ xs ∈ R, xs.length = m) (i : Nat) (hi : i < R.length) (ys : List Int) (hy : ys.length = m), put R.flatten ys (i * m) = (R.set i ys).flatten
  | x :: R, h, 0, hi, ys, hy => by
    have hx := h x (by simp)
    have e : x.length = ys.length := by omega
    simp [put, ← e]
  | x :: R, h, i + 1, hi, ys, hy => by
    have hx := h x (by simp)
    have ih := flat_put m R (fun y hy => h y (by simp [hy])) i (by simpa using hi) ys hy
    have e1 : (i + 1) * m = x.length + i * m := by rw [Nat.add_mul]; omega
    rw [List.set_cons_succ, List.flatten_cons, List.flatten_cons, ← ih, e1]
    unfold put
    rw [List.take_append, List.take_of_length_le (by omega : x.length ≤ x.length + i * m), Nat.add_sub_cancel_left, List.drop_append,
      List.drop_eq_nil_of_le (by omega : x.length ≤ x.length + i * m + ys.length), show x.length + i * m + ys.length - x.length = i * m + ys.length by omega]
    simp

/-- the first i rows are done -/
def mix (T R : List (List Int)) (i : Nat) : List (List Int) := T.take i ++ R.drop i
set_option maxRecDepth 100000 in
theorem mix_zero (T R : List (List Int)) : mix T R 0 = R := by simp [mix]
set_option maxRecDepth 100000 in
theorem mix_all (T R : List (List Int)) (i : Nat) (hT : T.length ≤ i) (hR : R.length ≤ i) : mix T R i = T := by simp [mix, List.take_of_length_le hT, List.drop_eq_nil_of_le hR]
set_option maxRecDepth 100000 in
theorem mix_len (T R : List (List Int)) (i : Nat) (h : T.length = R.length) : (mix T R i).length = R.length := by simp [mix]; omega
set_option maxRecDepth 100000 in
theorem mix_mem (T R : List (List Int)) (i m : Nat) (hT : ∀ xs ∈ T, xs.length = m) (hR : ∀ xs ∈ R, xs.length = m) : ∀ xs ∈ mix T R i, xs.length = m := by
  intro xs hx
  rcases List.mem_append.1 hx with h | h
  · exact hT _ (List.mem_of_mem_take h)
  · exact hR _ (List.mem_of_mem_drop h)
set_option maxRecDepth 100000 in
theorem mix_set (T R : List (List Int)) (i : Nat) (h : T.length = R.length) (hi : i < T.length) : (mix T R i).set i T[i] = mix T R (i + 1) := by
  apply List.ext_getElem?
  intro j
  simp only [mix, List.getElem?_set, List.getElem?_append, List.length_take, List.length_append, List.length_drop, List.getElem?_take, List.getElem?_drop]
  have hm : min i T.length = i := by omega
  have hm1 : min (i + 1) T.length = i + 1 := by omega
  rw [hm, hm1]
  by_cases e : i = j
  · subst e
    rw [if_pos rfl, if_pos (by omega), if_pos (by omega), if_pos (by omega)]
    simp [hi]
  · rw [if_neg e]
    by_cases l : j < i
    · rw [if_pos l, if_pos l, if_pos (by omega), if_pos (by omega)]
    · rw [if_neg l, if_neg (by omega), show i + (j - i) = i + 1 + (j - (i + 1)) by omega]
set_option maxRecDepth 100000 in
theorem mix_get (T R : List (List Int)) (i : Nat) (h : T.length = R.length) (hi : i < R.length) (hj : i < (mix T R i).length) : (mix T R i)[i] = R[i] := by
  simp only [mix]
  rw [List.getElem_append_right (by simp; omega)]
  simp [show min i T.length = i by omega]

def Four (R : List (List Int)) : Prop := R.length = 4 ∧ ∀ xs ∈ R, xs.length = 16
set_option maxRecDepth 100000 in
theorem Four.len {R : List (List Int)} (h : Four R) : R.flatten.length = 64 := by rw [flat_len 16 R h.2, h.1]
def Small (R : List (List Int)) : Prop := ∀ xs ∈ R, ∀ x ∈ xs, 0 ≤ x ∧ x ≤ 15

set_option maxRecDepth 100000 in
theorem rowsHalved_any (R : List (List Int)) (hR : Four R) (hr : Small R) (w : World) :
    Calls Try.prog 98 #[arr R.flatten] w fun e w' => e = .returned (arr (R.map (·.map half)).flatten) ∧ Below w.heap.size w w' := by
  obtain ⟨T, hT⟩ : ∃ T, T = R.map (·.map half) := ⟨_, rfl⟩
  have hT4 : Four T := by subst hT; exact ⟨by simp [hR.1], by simp; intro xs hx; exact hR.2 xs hx⟩
  rw [← hT]
  have HT : Hid (T = R.map (·.map half)) := hT
  clear hT
  have hl := hR.len
  have hlT := hT4.len
  go_enter Try.func98, Try.ntmps98
  go_wp2_with (first | (refine wpList_box_arr rfl 95 _ rfl R.flatten rfl ?_; intro b w1 hb hw1 hB1 hK1) | (refine wpList_alloc_arr rfl 95 rfl _ zero54 ?_; intro b2 w2 hb2 hw2 hB2 hK2; replace hK1 := hK1.below hB2 hw1) | (refine wpList_load_arr rfl 95 _ rfl b 0 64 rfl _ Try.underlying95 rfl size54 hK1 (by omega) R.flatten (all64 hl) ?_))
  have hB : Below w.heap.size w w2 := hB1.trans (hB2.mono hB1.size)
  have hne : b2 ≠ b := by omega
  go_loopw [6] (fun v wr => ∃ i : Nat, i ≤ 4 ∧ v = .int .i64 i ∧ Blk wr b 95 (mix T R i).flatten ∧ Blk wr b2 95 (List.replicate 64 0) ∧ Below w.heap.size w wr) (fun v _ => 4 - (intOf v).toNat)
  case atStart => exact ⟨0, by omega, rfl, by rw [mix_zero]; exact hK1, hK2, hB⟩
  case round =>
    obtain ⟨i, hi, rfl, hb1, hb2', hBr⟩ := hrel
    by_cases hlt : i < 4
    · have hiR : i < R.length := by rw [hR.1]; exact hlt
      have hiT : i < T.length := by rw [hT4.1]; exact hlt
      obtain ⟨xs, hxs⟩ : ∃ xs, R[i] = xs := ⟨_, rfl⟩
      have hx16 : xs.length = 16 := by rw [← hxs]; exact hR.2 _ (List.getElem_mem hiR)
      have hxb : ∀ x ∈ xs, 0 ≤ x ∧ x ≤ 15 := by rw [← hxs]; exact hr _ (List.getElem_mem hiR)
      have hchunk : Hid ((R.flatten.drop (i * 16)).take 16 = xs) := by unfold Hid; rw [flat_chunk 16 R hR.2 i hiR, hxs]
      obtain ⟨ys, hys⟩ : ∃ ys, Hid (xs.map half = ys) := ⟨_, rfl⟩
      have hy16 : ys.length = 16 := by rw [← hys.out]; simp [hx16]
      have HX : Hid (R[i] = xs) := hxs
      clear hxs
      have h4 := mix_len T R i (by rw [hT4.1, hR.1])
      have hm16 := mix_mem T R i 16 hT4.2 hR.2
      have hml : (mix T R i).flatten.length = 64 := by rw [flat_len 16 _ hm16, h4, hR.1]
      have h4' : Hid ((mix T R i).length = R.length) := h4
      clear h4
      have hm16' : Hid (∀ xs ∈ mix T R i, xs.length = 16) := hm16
      clear hm16
      have hb1' := hb1
      have hb2'' := hb2'
      go_wp2_with (first | (refine wpList_index_arr rfl 95 _ _ rfl R.flatten i 4 16 rfl rfl Try.underlying95 Try.sizeOf93 Try.isAgg93 hlt xs hchunk.out ?_) | (refine wpList_alloc_arr rfl 93 rfl _ zero52 ?_; intro b3 w3 hb3 hw3 hB3 hK3; replace hb1 := hb1.below hB3 hb1.lt; replace hb2' := hb2'.below hB3 hb2'.lt) | (refine wpList_store_arr rfl 93 _ _ rfl b3 0 xs rfl rfl (by rw [hx16]; exact size52) hK3 (by rw [hx16]; simp) ?_; intro w4 hO4 hK4; rw [put_all _ _ (by rw [hx16]; simp)] at hK4) | (refine wpList_load_arr rfl 93 _ rfl b3 0 16 rfl _ Try.underlying93 rfl size52 hK4 (by omega) xs (all16 hx16) ?_) | (go_at_call 129; refine (halved_any xs hx16 hxb _).mono ?_; rintro e w5 ⟨he, hB5⟩; rw [hys.out] at he; subst he; have hb1w := (hb1.of (hO4.2.1 _ (by have := hb1'.lt; omega))).below hB5 (by have := hb1'.lt; have := hO4.1; have := hB3.size; omega); have hb2w := (hb2'.of (hO4.2.1 _ (by have := hb2''.lt; omega))).below hB5 (by have := hb2''.lt; have := hO4.1; have := hB3.size; omega)) | (refine wpList_store_arr rfl 93 _ _ rfl b (i * 16) ys rfl rfl (by rw [hy16]; exact size52) hb1w (by rw [hy16, hml]; omega) ?_; intro w6 hO6 hK6; rw [flat_put 16 _ hm16'.out i (by rw [h4'.out]; exact hiR) ys hy16] at hK6))
      go_roundw
      case rel =>
        have eT : T[i] = ys := by
          have : T[i] = (R[i]).map half := by have := HT.out; subst this; simp
          rw [this, HX.out, hys.out]
        refine ⟨i + 1, by omega, by go_num, ?_, hb2w.of (hO6.2.1 _ hne), ?_⟩
        · rw [← mix_set T R i (by rw [hT4.1, hR.1]) hiT, eT]; exact hK6
        · refine ((hBr.trans (hB3.mono hBr.size)).trans (hO4.2.2 _ (by have := hBr.size; omega))).trans ?_
          exact (hB5.mono (by have := hBr.size; have := hB3.size; have := hO4.1; omega)).trans (hO6.2.2 _ hb)
      case measure => simp [intOf]; omega
    · obtain rfl : i = 4 := by omega
      rw [mix_all _ _ _ (by rw [hT4.1]; omega) (by rw [hR.1]; omega)] at hb1
      go_wp2_with (first | (refine wpList_load_arr rfl 95 _ rfl b 0 64 rfl _ Try.underlying95 rfl size54 hb1 (by omega) T.flatten (all64 hlT) ?_) | (refine wpList_store_arr rfl 95 _ _ rfl b2 0 T.flatten rfl rfl (by rw [hlT]; exact size54) hb2' (by rw [hlT]; simp) ?_; intro w3 hO3 hK3; rw [put_all _ _ (by rw [hlT]; simp)] at hK3))
      refine row_ret rfl rfl hK3 Try.underlying95 (by rw [hlT]; exact size54) rfl ⟨rfl, hBr.trans (hO3.2.2 _ (by omega))⟩

end Go.Proofs.Ytmnjmghlkiljhaa.sk
/- make and copy on rows of integers, as steps of plain regions and of regions that draw their order. -/
namespace Go.Proofs.Ytmnjmghlkiljhaa.sk
open Go.ChangeShapes Go.WideShapes Go.ChangeAt Go.RowKit
set_option linter.unusedVariables false

/-- block b is a row of cells, none frozen -/
def VBlk (w : World) (b : Nat) (t : TypeId) (vs : List Value) : Prop := w.heap[b]? = some (.cells vs.toArray t (0, 0))
set_option maxRecDepth 100000 in
theorem VBlk.cell {w : World} {b : Nat} {t : TypeId} {vs : List Value} (h : VBlk w b t vs) (j : Nat) (hj : j < vs.length) : w.cell? ⟨b, j, none⟩ = some vs[j] := by
  rw [cell_of_row _ _ _ _ _ _ h]; simp [hj]
set_option maxRecDepth 100000 in
theorem VBlk.frozen {w : World} {b : Nat} {t : TypeId} {vs : List Value} (h : VBlk w b t vs) (j : Nat) : w.frozen? ⟨b, j, none⟩ = false := frozen_of_row _ _ _ _ _ h
set_option maxRecDepth 100000 in
theorem VBlk.lt {w : World} {b : Nat} {t : TypeId} {vs : List Value} (h : VBlk w b t vs) : b < w.heap.size := (Array.getElem?_eq_some_iff.1 h).1
set_option maxRecDepth 100000 in
theorem VBlk.of {w w' : World} {b : Nat} {t : TypeId} {vs : List Value} (h : VBlk w b t vs) (e : w'.heap[b]? = w.heap[b]?) : VBlk w' b t vs := by unfold VBlk; rw [e]; exact h
set_option maxRecDepth 100000 in
theorem VBlk.below {w w' : World} {B b : Nat} {t : TypeId} {vs : List Value} (h : VBlk w b t vs) (hb : Below B w w') (hlt : b < B) : VBlk w' b t vs := h.of (hb.block b hlt)
set_option maxRecDepth 100000 in
theorem VBlk.set {w : World} {b : Nat} {t : TypeId} {vs : List Value} (h : VBlk w b t vs) (i : Nat) (x : Value) : VBlk (w.setCell ⟨b, i, none⟩ x) b t (vs.set i x) := by
  unfold VBlk
  rw [heap_setCell_same w b i _ t _ h]
  simp
set_option maxRecDepth 100000 in
theorem VBlk.ints {w : World} {b : Nat} {t : TypeId} {n : Nat} (h : VBlk w b t (List.replicate n (.int .i64 0))) : Blk w b t (List.replicate n 0) := by
  unfold Blk; rw [h]; simp [sk.ints]

section ops
variable {P : Program} {ops : Array Oper} {rest : List Oper} {o : Oper} {a : Act} {w : World} {Q : Exit → Act → World → Prop} {K : Act → World → Prop} {E : Prop}

set_option maxRecDepth 100000 in
theorem step_val (hgd : o.guard = none) {v : Value} {w' : World} (hr : (execOp a.eval o).run P w = .ok (.value v) w') (h : K (a.put o.dst v) w') :
    if Region.wanted o (yielded ops a.tmps) = true then Oper.wp P o a w K Q else E := by
  have hw : Region.wanted o (yielded ops a.tmps) = true := by simp [Region.wanted, hgd]
  rw [if_pos hw]
  unfold Oper.wp
  rw [hr]
  exact h

set_option maxRecDepth 100000 in
theorem made_replicate (z : Value) (n : Nat) : madeCells #[z] n = (List.replicate n z).toArray := by
  apply Array.ext
  · simp [madeCells]
  · intro i h1 h2
    simp [madeCells, Nat.mod_one]

set_option maxRecDepth 100000 in
/-- a new row of n zero values -/
theorem exec_make (t e : TypeId) (l c : Operand) (ho : o.op = .makeSlice t l c) (z : Value) (bytes n : Nat) (ht : P.underlying t = some (.slice e)) (hinfo : (P.info? e).map (fun i => (i.zero, i.size, i.bytes)) = some (some z, 1, bytes)) (hz1 : z.cells = #[z])
    (hl : a.eval l = .int .i64 n) (hc : a.eval c = .int .i64 n) (hbytes : bytes * n ≤ 281474976710656) (h63 : n ≤ 9223372036854775807) :
    (execOp a.eval o).run P w = .ok (.value (.slice (some ⟨w.heap.size, 0, none⟩) n n)) (w.alloc (.cells (List.replicate n z).toArray e)) := by
  have hr := run_make_row' (P := P) t e z bytes ht hinfo hz1 .i64 .i64 n hbytes h63 w
  rw [made_replicate] at hr
  unfold execOp
  simp only [ho, hl, hc, Sem.run_bind, hr, Result.andThen_ok]
  rfl
set_option maxRecDepth 100000 in
theorem wpList_make (hgd : o.guard = none) (t e : TypeId) (l c : Operand) (ho : o.op = .makeSlice t l c) (z : Value) (bytes n : Nat) (ht : P.underlying t = some (.slice e)) (hinfo : (P.info? e).map (fun i => (i.zero, i.size, i.bytes)) = some (some z, 1, bytes)) (hz1 : z.cells = #[z])
    (hl : a.eval l = .int .i64 n) (hc : a.eval c = .int .i64 n) (hbytes : bytes * n ≤ 281474976710656) (h63 : n ≤ 9223372036854775807)
    (h : ∀ (b : Nat) (w' : World), w.heap.size ≤ b → b < w'.heap.size → Below w.heap.size w w' → VBlk w' b e (List.replicate n z) → wpList P ops Q rest (a.put o.dst (.slice (some ⟨b, 0, none⟩) n n)) w') : wpList P ops Q (o :: rest) a w :=
  wpList_val hgd (exec_make t e l c ho z bytes n ht hinfo hz1 hl hc hbytes h63) (h _ _ (Nat.le_refl _) (by simp) ((Below.refl _ _).alloc (Nat.le_refl _) _) (heap_alloc_new _ _))

set_option maxRecDepth 100000 in
/-- integers are copied from one row into another -/
theorem exec_copy (d s : Operand) (dT sT : TypeId) (ho : o.op = .call { callee := .builtin .copy, args := #[d, s], argTypes := #[dT, sT] }) (elem : TypeId) (hu : P.underlying dT = some (.slice elem)) (hsz : (P.info? elem).map (·.size) = some 1)
    (b k n c b' k' c' : Nat) (xs : List Int) (hn : xs.length = n) (hd : a.eval d = .slice (some ⟨b, k, none⟩) n c) (hs : a.eval s = .slice (some ⟨b', k', none⟩) n c') (hr : w.rangeAt b' k' (ints xs)) (ht : w.there b k n) :
    (execOp a.eval o).run P w = .ok (.value (goInt n)) (w.setCells b k (ints xs)) := by
  subst hn
  have hrun := run_copy_cells (P := P) w dT sT o.type elem b k xs.length c ⟨b', k', none⟩ xs.length c' (ints xs) hu hsz (by simp [ints_len]) (fun j v hv => by rw [Addr.add_mid]; exact hr j v hv)
    (fun j hj => (ht j (by simpa [ints_len] using hj)).1) (fun j hj => (ht j (by simpa [ints_len] using hj)).2) (ints_one xs)
  rw [ints_len] at hrun
  simp [execOp, ho, resolve, invoke, builtin, hd, hs, hrun, Result.andThen]
end ops

set_option maxRecDepth 100000 in
theorem info46 : (Try.prog.info? 100).map (fun i => (i.zero, i.size, i.bytes)) = some (some (.slice none 0 0), 1, 24) := by kernel_rfl
set_option maxRecDepth 100000 in
theorem info2 : (Try.prog.info? 2).map (fun i => (i.zero, i.size, i.bytes)) = some (some (.int .i64 0), 1, 8) := by kernel_rfl
set_option maxRecDepth 100000 in
theorem size2 : (Try.prog.info? 2).map (·.size) = some 1 := by kernel_rfl
set_option maxRecDepth 100000 in
theorem size46 : (Try.prog.info? 100).map (·.size) = some 1 := by kernel_rfl

end Go.Proofs.Ytmnjmghlkiljhaa.sk
/- Contract of the four rows laid out as lists. -/
namespace Go.Proofs.Ytmnjmghlkiljhaa.sk
open Go.ChangeShapes Go.WideShapes Go.ChangeAt Go.RowKit
set_option linter.unusedVariables false

set_option maxRecDepth 100000 in
theorem take_snoc {α : Type} (R : List α) (i : Nat) (h : i < R.length) : R.take (i + 1) = R.take i ++ [R[i]] := List.take_succ_eq_append_getElem h
set_option maxRecDepth 100000 in
theorem VBlk.there {w : World} {b : Nat} {t : TypeId} {vs : List Value} (h : VBlk w b t vs) : w.there b 0 vs.length := fun j hj =>
  ⟨by simp only [Nat.zero_add]; rw [h.cell j hj]; rfl, by simp only [Nat.zero_add]; exact h.frozen j⟩

set_option maxRecDepth 100000 in
theorem lists_any (R : List (List Int)) (hR : Four R) (w : World) :
    Calls Try.prog 95 #[arr R.flatten] w fun e w' => ∃ v, e = .returned v ∧ Own w' w.heap.size w'.heap.size v R ∧ Below w.heap.size w w' := by
  have hl := hR.len
  go_enter Try.func95, Try.ntmps95
  go_wp2_with (first | (refine wpList_box_arr rfl 95 _ rfl R.flatten rfl ?_; intro b w1 hb hw1 hB1 hK1) | (refine wpList_make rfl 28 100 _ _ rfl (.slice none 0 0) 24 4 Try.underlying28 info46 rfl rfl rfl (by omega) (by omega) ?_; intro bo w2 hbo hw2 hB2 hV2; replace hK1 := hK1.below hB2 hw1) | (refine wpList_load_arr rfl 95 _ rfl b 0 64 rfl _ Try.underlying95 rfl size54 hK1 (by omega) R.flatten (all64 hl) ?_))
  have hB : Below w.heap.size w w2 := hB1.trans (hB2.mono hB1.size)
  have hlo : w.heap.size ≤ bo := by have := hB1.size; omega
  go_loopw [8] (fun v wr => ∃ i : Nat, i ≤ 4 ∧ v = .int .i64 i ∧ bo < wr.heap.size ∧ wr.there bo 0 4 ∧ (∃ B C, OwnAt wr w.heap.size wr.heap.size bo B C (R.take i)) ∧ Below w.heap.size w wr) (fun v _ => 4 - (intOf v).toNat)
  case atStart => exact ⟨0, by omega, rfl, hw2, hV2.there, ⟨fun _ => 0, fun _ => 0, own_none _ _ _ _ _ _ (Nat.le_refl _)⟩, hB⟩
  case round =>
    obtain ⟨i, hi, rfl, hbs, hth, ⟨B, C, hown⟩, hBr⟩ := hrel
    by_cases hlt : i < 4
    · have hiR : i < R.length := by rw [hR.1]; exact hlt
      obtain ⟨xs, hxs⟩ : ∃ xs, R[i] = xs := ⟨_, rfl⟩
      have hx16 : xs.length = 16 := by rw [← hxs]; exact hR.2 _ (List.getElem_mem hiR)
      have hchunk : Hid ((R.flatten.drop (i * 16)).take 16 = xs) := by unfold Hid; rw [flat_chunk 16 R hR.2 i hiR, hxs]
      have HX : Hid (R[i] = xs) := hxs
      clear hxs
      go_wp2_with (first | (refine wpList_index_arr rfl 95 _ _ rfl R.flatten i 4 16 rfl rfl Try.underlying95 Try.sizeOf93 Try.isAgg93 hlt xs hchunk.out ?_) | (refine wpList_alloc_arr rfl 93 rfl _ zero52 ?_; intro b3 w3 hb3 hw3 hB3 hK3) | (refine wpList_store_arr rfl 93 _ _ rfl b3 0 xs rfl rfl (by rw [hx16]; exact size52) hK3 (by rw [hx16]; simp) ?_; intro w4 hO4 hK4; rw [put_all _ _ (by rw [hx16]; simp)] at hK4) | (refine wpList_make rfl 100 2 _ _ rfl (.int .i64 0) 8 16 Try.underlying100 info2 rfl rfl rfl (by omega) (by omega) ?_; intro bi w5 hbi hw5 hB5 hV5; have hth5 := there_of hth (((hB5.block bo (by have := hO4.1; have := hB3.size; omega)).trans (hO4.2.1 bo (by omega))).trans (hB3.block bo hbs)); obtain ⟨u, hu⟩ := Option.isSome_iff_exists.1 (hth5 i hlt).1; have hf := (hth5 i hlt).2; simp only [Nat.zero_add] at hu hf))
      have hs3 := hB3.size
      have hs4 := hO4.1
      have hs5 := hB5.size
      have n1 : b3 ≠ bo := by omega
      have n2 : bi ≠ bo := by omega
      have n3 : bi ≠ b3 := by omega
      obtain ⟨w6, HW6⟩ : ∃ w6, Hid (w6 = w5.setCell ⟨bo, i, none⟩ (.slice (some ⟨bi, 0, none⟩) 16 16)) := ⟨_, rfl⟩
      rw [← HW6.out]
      have c6 : w6.drew.cell? ⟨bo, i, none⟩ = some (.slice (some ⟨bi, 0, none⟩) 16 16) := by show w6.cell? _ = _; rw [HW6.out]; exact World.cell?_setCell_same _ _ _ hu
      have r6 : w6.drew.rangeAt b3 0 (ints xs) := by
        have h5 := hK4.below hB5 (by omega)
        have h6 : Blk w6.drew b3 93 xs := by show Blk w6 b3 93 xs; rw [HW6.out]; exact h5.of (Below.heap_setCell _ _ _ _ n1)
        exact h6.range0
      have k6 : Blk w6.drew bi 2 (List.replicate 16 0) := by show Blk w6 bi _ _; rw [HW6.out]; exact hV5.ints.of (Below.heap_setCell _ _ _ _ n2)
      have t6 : w6.drew.there bi 0 16 := k6.there 0 16 (by simp)
      have c7 : (w6.drew.setCells bi 0 (ints xs)).cell? ⟨bo, i, none⟩ = some (.slice (some ⟨bi, 0, none⟩) 16 16) := by
        rw [World.cell?_of_block (w := w6.drew) (heap_setCells_other bi _ _ _ bo (fun e => n2 e.symm))]; exact c6
      go_region_held3 (fun w' => w'.cell? ⟨bo, i, none⟩ = some (.slice (some ⟨bi, 0, none⟩) 16 16)) (first | assumption | exact c6 | exact c7) (first | (refine step_val rfl (exec_copy _ _ _ _ rfl 2 Try.underlying100 size2 bi 0 16 16 b3 0 16 xs hx16 rfl rfl r6 t6) ?_))
      have k7 := k6.setCells xs 0 (by simp [hx16])
      rw [put_all _ _ (by simp [hx16])] at k7
      have o7 := only_setCells w6.drew bi (ints xs) 0
      obtain ⟨w7, HW7⟩ : ∃ w7, Hid (w7 = w6.drew.setCells bi 0 (ints xs)) := ⟨_, rfl⟩
      rw [← HW7.out] at c7 k7 o7 ⊢
      clear r6 k6 t6 c6
      go_wp2
      go_roundw
      case rel =>
        have hsz : w7.heap.size = w5.heap.size := by rw [o7.1]; show w6.heap.size = _; rw [HW6.out]; simp
        have sw : ∀ k, k < wr.heap.size → k ≠ bo → w7.heap[k]? = wr.heap[k]? := fun k hk hne => by
          rw [o7.2.1 k (by omega)]
          show w6.heap[k]? = _
          rw [HW6.out, Below.heap_setCell _ _ _ _ hne, hB5.block k (by omega), hO4.2.1 k (by omega), hB3.block k hk]
        have cw : ∀ j, j ≠ i → w7.cell? ⟨bo, j, none⟩ = wr.cell? ⟨bo, j, none⟩ := fun j hj => by
          rw [World.cell?_of_block (w := w6.drew) (o7.2.1 bo (fun e => n2 e.symm))]
          show w6.cell? _ = _
          rw [HW6.out, World.cell?_setCell_other _ _ _ _ (by simp <;> omega), World.cell?_of_block (w := w4) (hB5.block bo (by omega)), World.cell?_of_block (w := w3) (hO4.2.1 bo (by omega)), World.cell?_of_block (w := wr) (hB3.block bo hbs)]
        have hlt' : (R.take i).length = i := by simp; omega
        have own1 : OwnAt w7 w.heap.size wr.heap.size bo B C (R.take i) := hown.keepOuter (fun k _ h2 h3 => sw k h2 h3) (fun j hj => cw j (by omega)) (by omega)
        have own2 := own1.snoc (hi' := w7.heap.size) hlo (by omega) (by omega) (Nat.le_refl _) bi 16 xs (by omega) (by have := hBr.size; omega) (by omega) n2 (by rw [hx16]; unfold maxLen; omega) k7.row (by rw [hlt', hx16]; exact c7)
        refine ⟨i + 1, by omega, by go_num, by omega, ?_, ⟨_, _, by rw [take_snoc R i hiR, HX.out]; exact own2⟩, ?_⟩
        · intro j hj
          have h5 := hth5 j hj
          simp only [Nat.zero_add] at h5 ⊢
          have eb : w7.frozen? ⟨bo, j, none⟩ = w6.frozen? ⟨bo, j, none⟩ := World.frozen?_of_block (w := w6) (o7.2.1 bo (fun e => n2 e.symm))
          rw [eb, HW6.out, World.frozen?_setCell]
          refine ⟨?_, h5.2⟩
          by_cases e : j = i
          · subst e; rw [c7]; rfl
          · rw [cw j e]; have := (hth j hj).1; simpa using this
        · have hBw : Below w.heap.size w w5 := ((hBr.trans (hB3.mono hBr.size)).trans (hO4.2.2 _ (by have := hBr.size; omega))).trans (hB5.mono (by have := hBr.size; omega))
          refine Below.trans (b := w6) (by rw [HW6.out]; exact hBw.setCell hlo _) (Below.trans (b := w6.drew) (Below.refl _ _).drew (o7.2.2 _ (by have := hBr.size; omega)))
      case measure => simp [intOf]; omega
    · obtain rfl : i = 4 := by omega
      rw [List.take_of_length_le (by rw [hR.1]; omega)] at hown
      go_wp2
      go_ret
      exact ⟨_, rfl, ⟨by rw [hR.1]; unfold maxLen; omega, _, _, bo, B, C, by rw [hR.1]; rfl, fun _ => rfl, hown⟩, hBr⟩

end Go.Proofs.Ytmnjmghlkiljhaa.sk
/- Contract of rowsOf: the rows of a sketch as one array, and whether it is a right sketch. -/
namespace Go.Proofs.Ytmnjmghlkiljhaa.sk
open Go.ChangeShapes Go.WideShapes Go.ChangeAt Go.RowKit
set_option linter.unusedVariables false

def skOk (R : List (List Int)) (adds : Int) : Prop := R.length = 4 ∧ (0 ≤ adds ∧ adds ≤ 159) ∧ (∀ xs ∈ R, xs.length = 16) ∧ ∀ xs ∈ R, ∀ x ∈ xs, 0 ≤ x ∧ x ≤ 15
instance (R : List (List Int)) (adds : Int) : Decidable (skOk R adds) := by unfold skOk; infer_instance
set_option maxRecDepth 100000 in
theorem skOk.four {R : List (List Int)} {adds : Int} (h : skOk R adds) : Four R := ⟨h.1, h.2.2.1⟩
set_option maxRecDepth 100000 in
theorem skOk.small {R : List (List Int)} {adds : Int} (h : skOk R adds) : Small R := h.2.2.2
/-- a sketch as a value -/
abbrev skv (v : Value) (adds : Int) : Value := .agg #[v, .int .i64 adds]

section ops
variable {P : Program} {ops : Array Oper} {rest : List Oper} {o : Oper} {a : Act} {w : World} {Q : Exit → Act → World → Prop}
set_option maxRecDepth 100000 in
/-- a new variable that holds a struct -/
theorem wpList_box_v (hgd : o.guard = none) (t : TypeId) (x : Operand) (ho : o.op = .box t x) (vs : List Value) (hx : a.eval x = .agg vs.toArray)
    (h : ∀ (b : Nat) (w' : World), w.heap.size ≤ b → b < w'.heap.size → Below w.heap.size w w' → VBlk w' b t vs → wpList P ops Q rest (a.put o.dst (.pointer (some ⟨b, 0, none⟩))) w') : wpList P ops Q (o :: rest) a w := by
  refine wpList_val hgd (v := .pointer (some ⟨w.heap.size, 0, none⟩)) (w' := w.alloc (.cells vs.toArray t)) ?_ (h _ _ (Nat.le_refl _) (by simp) ((Below.refl _ _).alloc (Nat.le_refl _) _) (heap_alloc_new _ _))
  unfold execOp
  simp only [ho, hx]
  rfl
set_option maxRecDepth 100000 in
theorem wpList_alloc_v (hgd : o.guard = none) (t : TypeId) (ho : o.op = .alloc t) (vs : List Value) (hz : ∀ w, (zeroValue t).run P w = .ok (.agg vs.toArray) w)
    (h : ∀ (b : Nat) (w' : World), w.heap.size ≤ b → b < w'.heap.size → Below w.heap.size w w' → VBlk w' b t vs → wpList P ops Q rest (a.put o.dst (.pointer (some ⟨b, 0, none⟩))) w') : wpList P ops Q (o :: rest) a w := by
  refine wpList_val hgd (v := .pointer (some ⟨w.heap.size, 0, none⟩)) (w' := w.alloc (.cells vs.toArray t)) ?_ (h _ _ (Nat.le_refl _) (by simp) ((Below.refl _ _).alloc (Nat.le_refl _) _) (heap_alloc_new _ _))
  unfold execOp
  simp only [ho, Instr.alloc, Sem.run_bind, hz, Result.andThen_ok]
  rfl
set_option maxRecDepth 100000 in
/-- integers are copied from one row into another -/
theorem wpList_copy (hgd : o.guard = none) (d s : Operand) (dT sT : TypeId) (ho : o.op = .call { callee := .builtin .copy, args := #[d, s], argTypes := #[dT, sT] }) (elem : TypeId) (hu : P.underlying dT = some (.slice elem)) (hsz : (P.info? elem).map (·.size) = some 1)
    (b k n c b' k' c' : Nat) (xs : List Int) (hn : xs.length = n) (hd : a.eval d = .slice (some ⟨b, k, none⟩) n c) (hs : a.eval s = .slice (some ⟨b', k', none⟩) n c') (hr : w.rangeAt b' k' (ints xs)) {t : TypeId} {ys : List Int} (hb : Blk w b t ys) (hk : k + n ≤ ys.length)
    (h : ∀ w', Only b w w' → Blk w' b t (put ys xs k) → wpList P ops Q rest (a.put o.dst (goInt n)) w') : wpList P ops Q (o :: rest) a w :=
  wpList_val hgd (exec_copy d s dT sT ho elem hu hsz b k n c b' k' c' xs hn hd hs hr (hb.there k n hk)) (h _ (only_setCells _ _ _ _) (hb.setCells xs k (by omega)))
end ops

set_option maxRecDepth 100000 in
theorem row_ret2 {fn : Func} {p u : Tmp} {ty : TypeId} (h : fn.results = #[.cell p ty, .tmp u]) {R : Ending → World → Prop} {a : Act} {w : World} {b : Nat} {t : TypeId} {xs : List Int} {n : Nat} {e : TypeId} {x : Value}
    (hp : a.tmps.getD p undef = .pointer (some ⟨b, 0, none⟩)) (hx : a.tmps.getD u undef = x) (hb : Blk w b t xs) (hu : Try.prog.underlying ty = some (.array n e))
    (hi : (Try.prog.info? ty).map (·.size) = some xs.length) (hdf : a.defers = []) (hR : R (.returned (.tuple #[arr xs, x])) w) : bodyPost Try.prog fn R .ret a w := by
  refine bodyPost_ret ?_ hdf hR
  rw [results_cell_tmp h, hp, hx]
  have hl := run_loadVar_row (P := Try.prog) w b t ty (ints xs).toArray (0, 0) _ hb hu rfl (by rw [hi, ints_size])
  simp [asAddr, hl]

def zeros : List (List Int) := List.replicate 4 (List.replicate 16 0)
def z64 : List Int := List.replicate 64 0
set_option maxRecDepth 100000 in
theorem z64_len : z64.length = 64 := by decide
set_option maxRecDepth 100000 in
theorem zero54' (w : World) : (zeroValue 95).run Try.prog w = .ok (arr z64) w := zero54 w
set_option maxRecDepth 100000 in
theorem zeros_flat : zeros.flatten = z64 := by decide
set_option maxRecDepth 100000 in
theorem zeros_four : Four zeros := ⟨by decide, by decide⟩
set_option maxRecDepth 100000 in
theorem bnd_id {xs : List Int} : xs = xs.map bnd ↔ ∀ x ∈ xs, 0 ≤ x ∧ x ≤ 15 := by
  constructor
  · intro h x hx
    rw [h] at hx
    obtain ⟨y, -, rfl⟩ := List.mem_map.1 hx
    unfold bnd
    omega
  · intro h
    apply List.ext_getElem (by simp)
    intro i h1 h2
    have := h xs[i] (List.getElem_mem h1)
    simp only [List.getElem_map, bnd]
    omega

/-- what rowsOf answers -/
def RowsAns (w w' : World) (e : Ending) (R : List (List Int)) (adds : Int) : Prop :=
  ∃ fl : List Int, e = .returned (.tuple #[arr fl, .bool (decide (skOk R adds))]) ∧ fl.length = 64 ∧ (skOk R adds → fl = R.flatten) ∧ Below w.heap.size w w'

set_option maxRecDepth 100000 in
set_option maxHeartbeats 1000000 in
theorem rowsOf_any (R : List (List Int)) (adds : Int) (v : Value) (w : World) (hi : Nat) (hh : hi ≤ w.heap.size) (hv : Rd w 0 hi v R) :
    Calls Try.prog 70 #[skv v adds] w fun e w' => RowsAns w w' e R adds := by
  obtain ⟨hRl, a, cap, rfl, hrows⟩ := hv
  have m0 : Hid True := trivial
  by_cases h4 : R.length = 4
  · by_cases ha : 0 ≤ adds ∧ adds ≤ 159
    · have h4' : Hid (R.length = 4) := h4
      have h4i : ((R.length : Int) = 4) := by omega
      rcases hrows with hnil | ⟨b, off, rfl, -, hbhi, hcells⟩
      · subst hnil; simp at h4
      clear h4
      go_enter Try.func70, Try.ntmps70
      go_wp2_with (first | (refine wpList_box_v rfl 30 _ rfl [.slice (some ⟨b, off, none⟩) R.length cap, .int .i64 adds] rfl ?_; intro b1 w1 hb1 hw1 hB1 hV1) | (clear m0; refine wpList_alloc_arr rfl 95 rfl _ zero54' ?_; intro b2 w2 hb2 hw2 hB2 hK2; replace hV1 := hV1.below hB2 hw1) | (refine wpList_alloc_arr rfl 95 rfl _ zero54' ?_; intro b4 w4 hb4 hw4 hB4 hK4; replace hV1 := hV1.below hB4 (by have := hB2.size; omega); replace hK2 := hK2.below hB4 (by omega); have hc0 := hV1.cell 0 (by simp); have hc1 := hV1.cell 1 (by simp); simp only [List.getElem_cons_zero, List.getElem_cons_succ] at hc0 hc1; have hB : Below w.heap.size w w4 := (hB1.trans (hB2.mono hB1.size)).trans (hB4.mono (by have := hB1.size; have := hB2.size; omega))))
      have hlo2 : w.heap.size ≤ b2 := by have := hB1.size; omega
      have hlo4 : w.heap.size ≤ b4 := by have := hB1.size; have := hB2.size; omega
      have hne : b2 ≠ b4 := by omega
      go_loopw [25] (fun v wr => ∃ i : Nat, i ≤ 4 ∧ v = .int .i64 i ∧ Blk wr b4 95 (mix R zeros i).flatten ∧ Blk wr b2 95 z64 ∧ (∀ j (hj : j < R.length), j < i → (R[j]).length = 16 ∧ ∀ x ∈ R[j], 0 ≤ x ∧ x ≤ 15) ∧ Below w.heap.size w wr) (fun v _ => 4 - (intOf v).toNat)
      case atStart => exact ⟨0, by omega, rfl, by rw [mix_zero, zeros_flat]; exact hK4, hK2, fun j _ h => by omega, hB⟩
      case round =>
        obtain ⟨i, hi4, rfl, hk4, hk2, hdone, hBr⟩ := hrel
        by_cases hlt : i < 4
        · have hiR : i < R.length := by rw [h4'.out]; exact hlt
          obtain ⟨a', c', hcell0, hrow0⟩ := hcells i hiR
          obtain ⟨xs, hxs⟩ : ∃ xs, R[i] = xs := ⟨_, rfl⟩
          rw [hxs] at hcell0 hrow0
          have HX : Hid (R[i] = xs) := hxs
          clear hxs
          have hcell : wr.cell? ⟨b, off + i, none⟩ = some (.slice a' xs.length c') := by
            rw [hBr.cell (by show b < _; omega)]; exact hcell0
          have hrow := hrow0.keep (Same.of_below hBr hh)
          have hDone : Hid (∀ j (hj : j < R.length), j < i → (R[j]).length = 16 ∧ ∀ x ∈ R[j], 0 ≤ x ∧ x ≤ 15) := hdone
          clear hdone hcell0 hrow0
          have hmem : Hid (∀ ys ∈ mix R zeros i, ys.length = 16) := by
            intro ys hy
            rcases List.mem_append.1 hy with h | h
            · obtain ⟨j, hj, rfl⟩ := List.mem_take_iff_getElem.1 h
              exact (hDone.out j (by omega) (by omega)).1
            · exact zeros_four.2 _ (List.mem_of_mem_drop h)
          have hml : Hid ((mix R zeros i).length = 4) := by unfold Hid; rw [mix_len R zeros i (by rw [h4'.out]; rfl)]; rfl
          have hfl : (mix R zeros i).flatten.length = 64 := by rw [flat_len 16 _ hmem.out, hml.out]
          by_cases h16 : xs.length = 16
          · obtain ⟨fb, foff, rfl, -, hfb, hrange⟩ : ∃ b off, a' = some ⟨b, off, none⟩ ∧ 0 ≤ b ∧ b < hi ∧ wr.rangeAt b off (ints xs) := by
              rcases hrow.2 with h | h
              · subst h; simp at h16
              · exact h
            rw [h16] at hcell
            have e5 : Hid ((mix R zeros i).set i xs = mix R zeros (i + 1)) := by unfold Hid; rw [← mix_set R zeros i (by rw [h4'.out]; rfl) hiR, HX.out]
            have hmem1 : Hid (∀ ys ∈ mix R zeros (i + 1), ys.length = 16) := by
              intro ys hy
              rw [← e5.out] at hy
              rcases List.mem_or_eq_of_mem_set hy with q | q
              · exact hmem.out _ q
              · rw [q]; exact h16
            have hml1 : Hid ((mix R zeros (i + 1)).length = 4) := by unfold Hid; rw [← e5.out, List.length_set, hml.out]
            have hfl1 : (mix R zeros (i + 1)).flatten.length = 64 := by rw [flat_len 16 _ hmem1.out, hml1.out]
            have hch : Hid (xs = ((mix R zeros (i + 1)).flatten.drop (i * 16)).take 16) := by
              unfold Hid
              rw [flat_chunk 16 _ hmem1.out i (by rw [hml1.out]; exact hlt)]
              simp only [← e5.out, List.getElem_set_self]
            by_cases hbd : xs = xs.map bnd
            · have hd : decide (xs = xs.map bnd) = true := decide_eq_true hbd
              have hbd' : Hid (xs = xs.map bnd) := hbd
              clear hbd
              go_wp2_with (first | (refine wpList_copy rfl _ _ _ _ rfl 2 Try.underlying100 size2 b4 (i * 16) 16 16 fb foff c' xs h16 rfl rfl hrange hk4 (by rw [hfl]; omega) ?_; intro w5 hO5 hK5; rw [flat_put 16 _ hmem.out i (by rw [hml.out]; exact hlt) xs h16, e5.out] at hK5) | (refine wpList_load_arr rfl 93 _ rfl b4 (i * 16) 16 rfl _ Try.underlying93 rfl size52 hK5 (by rw [hfl1]; omega) xs hch.out ?_) | (go_at_call 115; refine (right_any xs h16 _).mono ?_; rintro e w6 ⟨rfl, hB6⟩; have hK6 := hK5.below hB6 hK5.lt; have hk26 := (hk2.of (hO5.2.1 _ hne)).below hB6 (by rw [hO5.1]; exact hk2.lt)))
              go_roundw
              case rel =>
                refine ⟨i + 1, by omega, by go_num, hK6, hk26, fun j hj hji => ?_, (hBr.trans (hO5.2.2 _ hlo4)).trans (hB6.mono (by rw [hO5.1]; exact hBr.size))⟩
                by_cases e : j = i
                · subst e; rw [HX.out]; exact ⟨h16, bnd_id.1 hbd'.out⟩
                · exact hDone.out j hj (by omega)
              case measure => simp [intOf]; omega
            · have hd : decide (xs = xs.map bnd) = false := decide_eq_false hbd
              have hno : Hid (decide (skOk R adds) = false) := decide_eq_false (fun h => hbd (bnd_id.2 (by rw [← HX.out]; exact h.2.2.2 _ (List.getElem_mem hiR))))
              clear hbd
              go_wp2_with (first | (refine wpList_copy rfl _ _ _ _ rfl 2 Try.underlying100 size2 b4 (i * 16) 16 16 fb foff c' xs h16 rfl rfl hrange hk4 (by rw [hfl]; omega) ?_; intro w5 hO5 hK5; rw [flat_put 16 _ hmem.out i (by rw [hml.out]; exact hlt) xs h16, e5.out] at hK5) | (refine wpList_load_arr rfl 93 _ rfl b4 (i * 16) 16 rfl _ Try.underlying93 rfl size52 hK5 (by rw [hfl1]; omega) xs hch.out ?_) | (go_at_call 115; refine (right_any xs h16 _).mono ?_; rintro e w6 ⟨rfl, hB6⟩; have hK6 := hK5.below hB6 hK5.lt; have hk26 := (hk2.of (hO5.2.1 _ hne)).below hB6 (by rw [hO5.1]; exact hk2.lt)) | (refine wpList_load_arr rfl 95 _ rfl b4 0 64 rfl _ Try.underlying95 rfl size54 hK6 (by omega) _ (all64 hfl1) ?_) | (refine wpList_store_arr rfl 95 _ _ rfl b2 0 _ rfl rfl (by rw [hfl1]; exact size54) hk26 (by rw [hfl1, z64_len]; omega) ?_; intro w7 hO7 hK7; rw [put_all _ _ (by rw [hfl1]; exact z64_len)] at hK7))
              exact row_ret2 rfl rfl rfl hK7 Try.underlying95 (by rw [hfl1]; exact size54) rfl ⟨_, by rw [hno.out]; rfl, hfl1, fun h => absurd h (of_decide_eq_false hno.out), ((hBr.trans (hO5.2.2 _ hlo4)).trans (hB6.mono (by rw [hO5.1]; exact hBr.size))).trans (hO7.2.2 _ hlo2)⟩
          · have hno : Hid (decide (skOk R adds) = false) := decide_eq_false (fun h => h16 (by rw [← HX.out]; exact h.2.2.1 _ (List.getElem_mem hiR)))
            have h16i : ¬ ((xs.length : Int) = 16) := by omega
            go_wp2_with (first | (refine wpList_load_arr rfl 95 _ rfl b4 0 64 rfl _ Try.underlying95 rfl size54 hk4 (by omega) _ (all64 hfl) ?_) | (refine wpList_store_arr rfl 95 _ _ rfl b2 0 _ rfl rfl (by rw [hfl]; exact size54) hk2 (by rw [hfl, z64_len]; omega) ?_; intro w7 hO7 hK7; rw [put_all _ _ (by rw [hfl]; exact z64_len)] at hK7))
            exact row_ret2 rfl rfl rfl hK7 Try.underlying95 (by rw [hfl]; exact size54) rfl ⟨_, by rw [hno.out]; rfl, hfl, fun h => absurd h (of_decide_eq_false hno.out), hBr.trans (hO7.2.2 _ hlo2)⟩
        · obtain rfl : i = 4 := by omega
          have hyes : skOk R adds := ⟨h4'.out, ha, fun ys hy => by obtain ⟨j, hj, rfl⟩ := List.getElem_of_mem hy; exact (hdone j hj (by rw [h4'.out] at hj; exact hj)).1, fun ys hy => by obtain ⟨j, hj, rfl⟩ := List.getElem_of_mem hy; exact (hdone j hj (by rw [h4'.out] at hj; exact hj)).2⟩
          have hfl := hyes.four.len
          rw [mix_all R zeros 4 (by rw [h4'.out]; omega) (by decide)] at hk4
          have hYes : Hid (skOk R adds) := hyes
          clear hyes hdone
          go_wp2_with (first | (refine wpList_load_arr rfl 95 _ rfl b4 0 64 rfl _ Try.underlying95 rfl size54 hk4 (by omega) _ (all64 hfl) ?_) | (refine wpList_store_arr rfl 95 _ _ rfl b2 0 _ rfl rfl (by rw [hfl]; exact size54) hk2 (by rw [hfl, z64_len]; omega) ?_; intro w7 hO7 hK7; rw [put_all _ _ (by rw [hfl]; exact z64_len)] at hK7))
          exact row_ret2 rfl rfl rfl hK7 Try.underlying95 (by rw [hfl]; exact size54) rfl ⟨_, by rw [decide_eq_true hYes.out]; rfl, hfl, fun _ => rfl, hBr.trans (hO7.2.2 _ hlo2)⟩
    · have hno : Hid (decide (skOk R adds) = false) := decide_eq_false (fun h => ha h.2.1)
      have h4' : ((R.length : Int) = 4) := by omega
      by_cases hneg : adds < 0
      · go_enter Try.func70, Try.ntmps70
        go_wp2_with (first | (refine wpList_box_v rfl 30 _ rfl [.slice a R.length cap, .int .i64 adds] rfl ?_; intro b1 w1 hb1 hw1 hB1 hV1) | (clear m0; refine wpList_alloc_arr rfl 95 rfl _ zero54' ?_; intro b2 w2 hb2 hw2 hB2 hK2; replace hV1 := hV1.below hB2 hw1) | (refine wpList_alloc_arr rfl 95 rfl _ zero54' ?_; intro b4 w4 hb4 hw4 hB4 hK4; replace hV1 := hV1.below hB4 (by have := hB2.size; omega); replace hK2 := hK2.below hB4 (by omega); have hc0 := hV1.cell 0 (by simp); have hc1 := hV1.cell 1 (by simp); simp only [List.getElem_cons_zero, List.getElem_cons_succ] at hc0 hc1; have hB : Below w.heap.size w w4 := (hB1.trans (hB2.mono hB1.size)).trans (hB4.mono (by have := hB1.size; have := hB2.size; omega))) | (refine wpList_load_arr rfl 95 _ rfl b4 0 64 rfl _ Try.underlying95 rfl size54 hK4 (by rw [z64_len]; omega) _ (all64 z64_len) ?_) | (refine wpList_store_arr rfl 95 _ _ rfl b2 0 z64 rfl rfl (by rw [z64_len]; exact size54) hK2 (by omega) ?_; intro w5 hO5 hK5; rw [put_all _ _ rfl] at hK5))
        exact row_ret2 rfl rfl rfl hK5 Try.underlying95 (by rw [z64_len]; exact size54) rfl ⟨z64, by rw [hno.out]; rfl, z64_len, fun h => absurd h (of_decide_eq_false hno.out), hB.trans (hO5.2.2 _ (by have := hB1.size; omega))⟩
      · have hbig : 160 ≤ adds := by omega
        go_enter Try.func70, Try.ntmps70
        go_wp2_with (first | (refine wpList_box_v rfl 30 _ rfl [.slice a R.length cap, .int .i64 adds] rfl ?_; intro b1 w1 hb1 hw1 hB1 hV1) | (clear m0; refine wpList_alloc_arr rfl 95 rfl _ zero54' ?_; intro b2 w2 hb2 hw2 hB2 hK2; replace hV1 := hV1.below hB2 hw1) | (refine wpList_alloc_arr rfl 95 rfl _ zero54' ?_; intro b4 w4 hb4 hw4 hB4 hK4; replace hV1 := hV1.below hB4 (by have := hB2.size; omega); replace hK2 := hK2.below hB4 (by omega); have hc0 := hV1.cell 0 (by simp); have hc1 := hV1.cell 1 (by simp); simp only [List.getElem_cons_zero, List.getElem_cons_succ] at hc0 hc1; have hB : Below w.heap.size w w4 := (hB1.trans (hB2.mono hB1.size)).trans (hB4.mono (by have := hB1.size; have := hB2.size; omega))) | (refine wpList_load_arr rfl 95 _ rfl b4 0 64 rfl _ Try.underlying95 rfl size54 hK4 (by rw [z64_len]; omega) _ (all64 z64_len) ?_) | (refine wpList_store_arr rfl 95 _ _ rfl b2 0 z64 rfl rfl (by rw [z64_len]; exact size54) hK2 (by omega) ?_; intro w5 hO5 hK5; rw [put_all _ _ rfl] at hK5))
        exact row_ret2 rfl rfl rfl hK5 Try.underlying95 (by rw [z64_len]; exact size54) rfl ⟨z64, by rw [hno.out]; rfl, z64_len, fun h => absurd h (of_decide_eq_false hno.out), hB.trans (hO5.2.2 _ (by have := hB1.size; omega))⟩
  · have hno : Hid (decide (skOk R adds) = false) := decide_eq_false (fun h => h4 h.1)
    have h4' : ¬ ((R.length : Int) = 4) := by omega
    go_enter Try.func70, Try.ntmps70
    go_wp2_with (first | (refine wpList_box_v rfl 30 _ rfl [.slice a R.length cap, .int .i64 adds] rfl ?_; intro b1 w1 hb1 hw1 hB1 hV1) | (clear m0; refine wpList_alloc_arr rfl 95 rfl _ zero54' ?_; intro b2 w2 hb2 hw2 hB2 hK2; replace hV1 := hV1.below hB2 hw1) | (refine wpList_alloc_arr rfl 95 rfl _ zero54' ?_; intro b4 w4 hb4 hw4 hB4 hK4; replace hV1 := hV1.below hB4 (by have := hB2.size; omega); replace hK2 := hK2.below hB4 (by omega); have hc0 := hV1.cell 0 (by simp); have hc1 := hV1.cell 1 (by simp); simp only [List.getElem_cons_zero, List.getElem_cons_succ] at hc0 hc1; have hB : Below w.heap.size w w4 := (hB1.trans (hB2.mono hB1.size)).trans (hB4.mono (by have := hB1.size; have := hB2.size; omega))) | (refine wpList_load_arr rfl 95 _ rfl b4 0 64 rfl _ Try.underlying95 rfl size54 hK4 (by rw [z64_len]; omega) _ (all64 z64_len) ?_) | (refine wpList_store_arr rfl 95 _ _ rfl b2 0 z64 rfl rfl (by rw [z64_len]; exact size54) hK2 (by omega) ?_; intro w5 hO5 hK5; rw [put_all _ _ rfl] at hK5))
    exact row_ret2 rfl rfl rfl hK5 Try.underlying95 (by rw [z64_len]; exact size54) rfl ⟨z64, by rw [hno.out]; rfl, z64_len, fun h => absurd h (of_decide_eq_false hno.out), hB.trans (hO5.2.2 _ (by have := hB1.size; omega))⟩

end Go.Proofs.Ytmnjmghlkiljhaa.sk
/- Plain facts on numbers for chapter 1 (bits): the lowest k bits of a number in the other order, its bounds, the greatest power of two. No Go in sight. -/
namespace Go.Proofs.Ytmnjmghlkiljhaa
open Go.RowKit

/-- the lowest k bits of n, in the other order -/
def rv (n : Int) : Nat → Int
  | 0 => 0
  | k + 1 => 2 * rv n k + n / 2 ^ k % 2

theorem rv_bd (n : Int) (k : Nat) : 0 ≤ rv n k ∧ rv n k < 2 ^ k := by
  induction k with
  | zero => simp [rv]
  | succ k ih =>
    have hp : (2 : Int) ^ (k + 1) = 2 * 2 ^ k := by rw [Int.pow_succ]; omega
    simp only [rv]
    rw [hp]
    omega

theorem pow_le16 (k : Nat) (h : k ≤ 16) : (2 : Int) ^ k ≤ 65536 := by
  have : (2 : Nat) ^ k ≤ 2 ^ 16 := Nat.pow_le_pow_right (by decide) h
  have e : ((2 ^ k : Nat) : Int) = (2 : Int) ^ k := by simp
  omega

theorem pow_pos (k : Nat) : (1 : Int) ≤ 2 ^ k := by
  have : 0 < (2 : Nat) ^ k := Nat.two_pow_pos k
  have e : ((2 ^ k : Nat) : Int) = (2 : Int) ^ k := by simp
  omega

theorem rv_16 (n : Int) (k : Nat) (h : k ≤ 16) : 0 ≤ rv n k ∧ rv n k ≤ 65535 := by
  have a := rv_bd n k
  have b := pow_le16 k h
  omega

theorem wraps_i64 (n : Int) (h₀ : 0 ≤ n) (h₁ : n < 2 ^ 63) : IntKind.i64.wrap n = n := by rw [IntKind.wrap_i64]; omega

theorem and1_i64 (x : Int) (h₀ : 0 ≤ x) (h₁ : x ≤ 9223372036854775807) : bits .and .i64 x 1 = x % 2 :=
  bits_mask .i64 63 (by decide) wraps_i64 1 (by decide) x h₀ (by omega)

theorem or_even_i64 (x y : Int) (h₀ : 0 ≤ x) (h₁ : x % 2 = 0) (h₂ : x ≤ 9223372036854775807) (h₃ : 0 ≤ y) (h₄ : y ≤ 1) : bits .or .i64 x y = x + y :=
  bits_join .i64 63 (by decide) wraps_i64 1 x y h₀ (by omega) (by omega) h₃ (by omega) (by omega)

/-- what Turned answers -/
def turn (n b : Int) : Int := if 1 ≤ b ∧ b ≤ 16 ∧ 0 ≤ n ∧ n < 2 ^ b.toNat then rv n b.toNat else -1

end Go.Proofs.Ytmnjmghlkiljhaa
/- Contracts of Hash, the model's and the program's: each answers as a plain fold over the bytes, and the world stays. -/
namespace Go.Proofs.Ytmnjmghlkiljhaa.hash
open Go.ChangeShapes Go.WideShapes Go.ChangeAt Go.RowKit
set_option linter.unusedVariables false

theorem ret_int {k : IntKind} {a b : Int} (h : a = b) : Ending.returned (.int k a) = .returned (.int k b) := by rw [h]
def step (h : Int) (c : UInt8) : Int := (257 * h + c.toNat + 1) % 65521
def run (l : List UInt8) : Int := l.foldl step 5
theorem run_snoc (l : List UInt8) (c : UInt8) : run (l ++ [c]) = (257 * run l + c.toNat + 1) % 65521 := by
  unfold run; rw [List.foldl_append]; rfl
theorem run_bd (l : List UInt8) : 0 ≤ run l ∧ run l ≤ 65520 := by
  rcases l.eq_nil_or_concat with h | ⟨l', c, h⟩
  · subst h; decide
  · subst h; rw [List.concat_eq_append, run_snoc]; omega
theorem take_snoc (s : ByteArray) (k : Nat) (h : k < s.size) : s.data.toList.take (k + 1) = s.data.toList.take k ++ [s[k]] := by
  rw [List.take_succ_eq_append_getElem (by simpa using h)]; rfl
def hashOf (s : ByteArray) : Int := run s.data.toList % 32768
theorem hashOf_bd (s : ByteArray) : 0 ≤ hashOf s ∧ hashOf s ≤ 32767 := by
  unfold hashOf
  have := run_bd s.data.toList
  omega
theorem u8_le (c : UInt8) : (c.toNat : Int) ≤ 255 := by have := c.toNat_lt; omega

theorem spec_any (s : ByteArray) (w : World) (hs : s.size ≤ maxLen) :
    Calls Try.prog 145 #[.string s] w fun e w' => e = .returned (.int .i64 (hashOf s)) ∧ w' = w := by
  unfold maxLen at hs
  go_enter Try.func145, Try.ntmps145
  go_wp2
  go_loop [3, 4] (fun o i => ∃ k : Nat, k ≤ s.size ∧ i = .int .i64 k ∧ o = .int .i64 (run (s.data.toList.take k))) (fun _ i => s.size - (intOf i).toNat)
  case atStart => exact ⟨0, Nat.zero_le _, rfl, rfl⟩
  case round =>
    obtain ⟨k, hk, rfl, rfl⟩ := hrel
    have hb := run_bd (s.data.toList.take k)
    by_cases hlt : k < s.size
    · have HS : Hid (run (s.data.toList.take (k + 1)) = (257 * run (s.data.toList.take k) + s[k].toNat + 1) % 65521) := by
        rw [take_snoc s k hlt, run_snoc]; rfl
      have hc := u8_le s[k]
      go_wp2
      go_round
      case rel => exact ⟨k + 1, by omega, by go_num, by rw [HS.out]⟩
      case measure => simp [intOf]; omega
    · go_wp2
      go_ret
      exact ⟨ret_int (by unfold hashOf; rw [List.take_of_length_le (by simp; omega)]), rfl⟩

theorem impl_any (s : ByteArray) (w : World) (hs : s.size ≤ maxLen) :
    Calls Try.prog 116 #[.string s] w fun e w' => e = .returned (.int .i64 (hashOf s)) ∧ w' = w := by
  unfold maxLen at hs
  go_enter Try.func116, Try.ntmps116
  go_wp2
  go_loop [3, 7] (fun o i => ∃ k : Nat, k ≤ s.size ∧ i = .int .i64 k ∧ o = .int .i64 (run (s.data.toList.take k))) (fun _ i => s.size - (intOf i).toNat)
  case atStart => exact ⟨0, Nat.zero_le _, rfl, rfl⟩
  case round =>
    obtain ⟨k, hk, rfl, rfl⟩ := hrel
    have hb := run_bd (s.data.toList.take k)
    by_cases hlt : k < s.size
    · have HS : Hid (run (s.data.toList.take (k + 1)) = (257 * run (s.data.toList.take k) + s[k].toNat + 1) % 65521) := by
        rw [take_snoc s k hlt, run_snoc]; rfl
      have hc := u8_le s[k]
      go_wp2
      go_round
      case rel => exact ⟨k + 1, by omega, by go_num, by rw [HS.out]⟩
      case measure => simp [intOf]; omega
    · go_wp2
      go_ret
      exact ⟨ret_int (by unfold hashOf; rw [List.take_of_length_le (by simp; omega)]), rfl⟩

end Go.Proofs.Ytmnjmghlkiljhaa.hash
/- Contracts of PlaceOf, the model's and the program's: each answers as one plain function of the key and the row, and only new memory is made. -/
namespace Go.Proofs.Ytmnjmghlkiljhaa.place
open Go.ChangeShapes Go.WideShapes Go.ChangeAt Go.RowKit
set_option linter.unusedVariables false

/-- the byte that row r puts behind the key -/
def tail (r : Int) : ByteArray := ⟨#[UInt8.ofNat (97 + r).toNat]⟩
def placeOf (s : ByteArray) (r : Int) : Int := hash.hashOf (s ++ tail r) % 16
set_option maxRecDepth 100000 in
theorem placeOf_bd (s : ByteArray) (r : Int) : 0 ≤ placeOf s r ∧ placeOf s r < 16 := by unfold placeOf; omega

/-- at most one new row was made -/
def One (w w' : World) : Prop := w' = w ∨ ∃ c t, w' = w.alloc (.cells c t)
set_option maxRecDepth 100000 in
theorem One.below {w w' : World} (h : One w w') : Below w.heap.size w w' := by
  rcases h with rfl | ⟨c, t, rfl⟩
  · exact Below.refl _ _
  · exact (Below.refl _ _).alloc (Nat.le_refl _) _
set_option maxRecDepth 100000 in
theorem One.grown {W w w' : World} (g : Grown W w) (h : One w w') : Grown W w' := by
  rcases h with rfl | ⟨c, t, rfl⟩
  · exact g
  · exact g.alloc c t

set_option maxRecDepth 100000 in
theorem in_yes (x lo hi : Int) (h1 : lo ≤ x) (h2 : x ≤ hi) (w : World) : Calls Try.prog 69 #[.int .i64 x, .int .i64 lo, .int .i64 hi] w fun e w' => e = .returned (.bool true) ∧ w' = w := by
  go_enter Try.func69, Try.ntmps69
  go_wp2
  go_ret
  exact ⟨rfl, rfl⟩
set_option maxRecDepth 100000 in
theorem in_any (x lo hi : Int) (w : World) : Calls Try.prog 69 #[.int .i64 x, .int .i64 lo, .int .i64 hi] w fun e w' => e = .returned (.bool (decide (lo ≤ x ∧ x ≤ hi))) ∧ w' = w := by
  by_cases h1 : lo ≤ x
  · by_cases h2 : x ≤ hi
    · refine (in_yes x lo hi h1 h2 w).mono ?_
      rintro e w' ⟨rfl, rfl⟩
      exact ⟨by simp [h1, h2], rfl⟩
    · go_enter Try.func69, Try.ntmps69
      go_wp2
      go_ret
      exact ⟨by simp; omega, rfl⟩
  · go_enter Try.func69, Try.ntmps69
    go_wp2
    go_ret
    exact ⟨by simp; omega, rfl⟩

set_option maxRecDepth 100000 in
theorem tail_size (r : Int) : (tail r).size = 1 := rfl
set_option maxRecDepth 100000 in
theorem conv (r : Int) (h0 : 0 ≤ r) (h1 : r ≤ 3) (w : World) : (convert 22 9 (Value.slice (some { block := w.heap.size, off := 0 }) 1 1)).run Try.prog (w.alloc (Obj.cells #[Value.int IntKind.u8 (97 + r)] 5)) = .ok (.string (tail r)) (w.alloc (Obj.cells #[Value.int IntKind.u8 (97 + r)] 5)) :=
  run_convert_bytes_back (P := Try.prog) (w.alloc (Obj.cells #[Value.int IntKind.u8 (97 + r)] 5)) 22 9 5 ⟨w.heap.size, 0, none⟩ 1 [UInt8.ofNat (97 + r).toNat] Try.underlying22 Try.underlying5 Try.underlying9 (fun j hj => by
    have hj0 : j = 0 := by simpa using hj
    subst hj0
    have e : (((UInt8.ofNat (97 + r).toNat).toNat : Nat) : Int) = 97 + r := by
      rw [UInt8.toNat_ofNat']; omega
    simp only [List.getElem_cons_zero, e]
    show (w.alloc _).cell? ⟨w.heap.size, 0, none⟩ = _
    rw [cell_of_row _ _ 0 _ _ _ (heap_alloc_new w _)]; rfl)

set_option maxRecDepth 100000 in
theorem spec_in (s : ByteArray) (r : Int) (h0 : 0 ≤ r) (h1 : r ≤ 3) (hs : s.size ≤ 1048576) (w : World) :
    Calls Try.prog 135 #[.string s, .int .i64 r] w fun e w' => e = .returned (.int .i64 (placeOf s r)) ∧ One w w' := by
  have hcv := conv r h0 h1 w
  have ht := tail_size r
  have hb := hash.hashOf_bd (s ++ tail r)
  go_enter Try.func135, Try.ntmps135
  go_wp2_with (first | (go_at_call 69; refine (in_yes _ _ _ (by omega) (by omega) _).mono ?_; rintro e w' ⟨rfl, rfl⟩) | (go_at_call 145; refine (hash.spec_any _ _ (by rw [ByteArray.size_append, ht]; unfold maxLen; omega)).mono ?_; rintro e w' ⟨rfl, rfl⟩))
  go_ret
  exact ⟨rfl, .inr ⟨_, _, rfl⟩⟩

set_option maxRecDepth 100000 in
theorem impl_in (s : ByteArray) (r : Int) (h0 : 0 ≤ r) (h1 : r ≤ 3) (hs : s.size ≤ 1048576) (w : World) :
    Calls Try.prog 71 #[.string s, .int .i64 r] w fun e w' => e = .returned (.int .i64 (placeOf s r)) ∧ One w w' := by
  have hcv := conv r h0 h1 w
  have ht := tail_size r
  have hb := hash.hashOf_bd (s ++ tail r)
  go_enter Try.func71, Try.ntmps71
  go_wp2_with (first | (go_at_call 116; refine (hash.impl_any _ _ (by rw [ByteArray.size_append, ht]; unfold maxLen; omega)).mono ?_; rintro e w' ⟨rfl, rfl⟩))
  go_ret
  exact ⟨rfl, .inr ⟨_, _, rfl⟩⟩

def placeAns (s : ByteArray) (r : Int) : Int := if 0 ≤ r ∧ r ≤ 3 then placeOf s r else -1
set_option maxRecDepth 100000 in
theorem spec_any (s : ByteArray) (r : Int) (hs : s.size ≤ 1048576) (w : World) :
    Calls Try.prog 135 #[.string s, .int .i64 r] w fun e w' => e = .returned (.int .i64 (placeAns s r)) ∧ One w w' := by
  by_cases h : 0 ≤ r ∧ r ≤ 3
  · refine (spec_in s r h.1 h.2 hs w).mono ?_
    rintro e w' ⟨rfl, hb⟩
    exact ⟨by simp [placeAns, h], hb⟩
  · have hd : decide (0 ≤ r ∧ r ≤ 3) = false := by simpa using h
    have HP : Hid (placeAns s r = -1) := by simp [Hid, placeAns, h]
    go_enter Try.func135, Try.ntmps135
    go_wp2_with (first | (go_at_call 69; refine (in_any _ _ _ _).mono ?_; rintro e w' ⟨rfl, rfl⟩))
    go_ret
    exact ⟨by rw [HP.out]; rfl, .inl rfl⟩
set_option maxRecDepth 100000 in
theorem impl_any (s : ByteArray) (r : Int) (hs : s.size ≤ 1048576) (w : World) :
    Calls Try.prog 71 #[.string s, .int .i64 r] w fun e w' => e = .returned (.int .i64 (placeAns s r)) ∧ One w w' := by
  by_cases h : 0 ≤ r ∧ r ≤ 3
  · refine (impl_in s r h.1 h.2 hs w).mono ?_
    rintro e w' ⟨rfl, hb⟩
    exact ⟨by simp [placeAns, h], hb⟩
  · have HP : Hid (placeAns s r = -1) := by simp [Hid, placeAns, h]
    by_cases h0 : r < 0
    · go_enter Try.func71, Try.ntmps71
      go_wp2
      go_ret
      exact ⟨by rw [HP.out]; rfl, .inl rfl⟩
    · have h3 : 4 ≤ r := by omega
      go_enter Try.func71, Try.ntmps71
      go_wp2
      go_ret
      exact ⟨by rw [HP.out]; rfl, .inl rfl⟩

end Go.Proofs.Ytmnjmghlkiljhaa.place
