/- Rows in memory, of whatever things lie in k cells each: how they are read, how a call owns them, what keeps them; append. -/
import Derived.Test.YtmnjmghlkiljhaaCeOps
import Derived.Laws.AppendOwnNone
import Derived.Lib.SliceRun
namespace Go.Proofs.Ytmnjmghlkiljhaa.ro
open Go.ChangeShapes Go.WideShapes Go.ChangeAt Go.RowKit
open Go.Proofs.Ytmnjmghlkiljhaa.ce
set_option linter.unusedVariables false

/-- how a thing lies in memory: in k cells, in blocks of the type t -/
structure Enc (α : Type) where
  put : α → List Value
  k : Nat
  t : TypeId
  len : ∀ x, (put x).length = k
  one : ∀ x, ∀ v ∈ put x, v.oneCell' = true
  pos : 0 < k

section plain
variable {α : Type} (E : Enc α)
def Enc.row (xs : List α) : List Value := xs.flatMap E.put
theorem Enc.row_nil : E.row [] = [] := rfl
theorem Enc.row_cons (x : α) (xs : List α) : E.row (x :: xs) = E.put x ++ E.row xs := by simp [Enc.row]
theorem Enc.row_one' (x : α) : E.row [x] = E.put x := by simp [Enc.row]
theorem Enc.row_append (xs ys : List α) : E.row (xs ++ ys) = E.row xs ++ E.row ys := by simp [Enc.row]
theorem Enc.row_len : ∀ xs : List α, (E.row xs).length = xs.length * E.k
  | [] => by simp [Enc.row]
  | x :: r => by rw [Enc.row_cons, List.length_append, E.len, Enc.row_len r, List.length_cons, Nat.add_mul]; omega
theorem Enc.row_cells (xs : List α) : ∀ v ∈ E.row xs, v.oneCell' = true := by
  intro v hv
  obtain ⟨x, -, hx⟩ := List.mem_flatMap.1 hv
  exact E.one x v hx
theorem Enc.row_get : ∀ (xs : List α) (i j : Nat) (hi : i < xs.length), j < E.k → (E.row xs)[i * E.k + j]? = (E.put xs[i])[j]?
  | [], i, j, hi, _ => by simp at hi
  | x :: r, 0, j, hi, hj => by
    rw [Enc.row_cons, Nat.zero_mul, Nat.zero_add, List.getElem?_append_left (by rw [E.len]; exact hj)]
    rfl
  | x :: r, i + 1, j, hi, hj => by
    rw [Enc.row_cons, List.getElem?_append_right (by rw [E.len, Nat.add_mul]; omega), E.len, show (i + 1) * E.k + j - E.k = i * E.k + j by rw [Nat.add_mul]; omega]
    exact Enc.row_get r i j (by simpa using hi) hj
theorem Enc.row_take : ∀ (xs : List α) (m : Nat), (E.row xs).take (m * E.k) = E.row (xs.take m)
  | [], m => by simp [Enc.row]
  | x :: r, 0 => by simp [Enc.row]
  | x :: r, m + 1 => by
    rw [Enc.row_cons, List.take_succ_cons, Enc.row_cons, ← Enc.row_take r m, List.take_append, E.len, List.take_of_length_le (by rw [E.len, Nat.add_mul]; omega), show (m + 1) * E.k - E.k = m * E.k by rw [Nat.add_mul]; omega]
theorem Enc.row_drop (xs : List α) (m : Nat) (hm : m ≤ xs.length) : (E.row xs).drop (m * E.k) = E.row (xs.drop m) := by
  have h : E.row xs = E.row (xs.take m) ++ E.row (xs.drop m) := by rw [← Enc.row_append, List.take_append_drop]
  have hl : (E.row (xs.take m)).length = m * E.k := by rw [Enc.row_len, List.length_take, Nat.min_eq_left hm]
  rw [h, ← hl, List.drop_left]
theorem Enc.row_set : ∀ (xs : List α) (i j : Nat) (hi : i < xs.length), j < E.k → ∀ (u : Value) (y : α), E.put y = (E.put xs[i]).set j u → (E.row xs).set (i * E.k + j) u = E.row (xs.set i y)
  | [], i, j, hi, _, _, _, _ => by simp at hi
  | x :: r, 0, j, hi, hj, u, y, hy => by
    rw [List.set_cons_zero, Enc.row_cons, Enc.row_cons, Nat.zero_mul, Nat.zero_add, List.set_append_left _ _ (by rw [E.len]; exact hj), hy]
    rfl
  | x :: r, i + 1, j, hi, hj, u, y, hy => by
    rw [List.set_cons_succ, Enc.row_cons, Enc.row_cons, List.set_append_right _ _ (by rw [E.len, Nat.add_mul]; omega), E.len, show (i + 1) * E.k + j - E.k = i * E.k + j by rw [Nat.add_mul]; omega, Enc.row_set r i j (by simpa using hi) hj u y (by simpa using hy)]
theorem Enc.row_replicate (x : α) (n : Nat) (v : Value) (h : E.put x = [v]) : E.row (List.replicate n x) = List.replicate n v := by
  induction n with
  | zero => simp [Enc.row]
  | succ n ih => rw [List.replicate_succ, Enc.row_cons, ih, h, List.replicate_succ]; rfl
end plain

theorem range_of {w w' : World} {b off : Nat} {vs : List Value} (h : w.rangeAt b off vs) (e : w'.heap[b]? = w.heap[b]?) : w'.rangeAt b off vs := fun j v hv => by
  rw [World.cell?_of_block (w := w) (w' := w') (a := ⟨b, off + j, none⟩) e]; exact h j v hv
theorem range_lt {w : World} {b off : Nat} {vs : List Value} (h : w.rangeAt b off vs) (hn : vs ≠ []) : b < w.heap.size := by
  cases vs with
  | nil => exact absurd rfl hn
  | cons v r => exact World.block_lt_of_cell? w _ (h 0 v rfl)
theorem below_grown {B : Nat} {w w' : World} {row : Option Nat} (h : w.grownBy w' row) (hB : B ≤ w.heap.size) (hr : ∀ k, row = some k → B ≤ k) : Below B w w' := Below.grown (Below.refl _ w) h hB hr

variable {α : Type}
/-- the things xs are read at the slice v -/
structure Rd (E : Enc α) (w : World) (v : Value) (xs : List α) : Prop where
  fits : ∃ a cap, v = .slice a xs.length cap ∧ xs.length ≤ cap ∧ cap ≤ maxLen ∧ (xs ≠ [] → ∃ b off, a = some ⟨b, off, none⟩ ∧ b < w.heap.size ∧ w.rangeAt b off (E.row xs))
theorem Rd.grow {E : Enc α} {w w' : World} {v : Value} {xs : List α} (r : Rd E w v xs) (hb : Below w.heap.size w w') : Rd E w' v xs := by
  obtain ⟨a, cap, e, h1, h2, h3⟩ := r.fits
  refine ⟨a, cap, e, h1, h2, fun hn => ?_⟩
  obtain ⟨b, off, e2, h4, h5⟩ := h3 hn
  exact ⟨b, off, e2, Nat.lt_of_lt_of_le h4 hb.size, range_of h5 (hb.block b h4)⟩
theorem Rd.drew {E : Enc α} {w : World} {v : Value} {xs : List α} (r : Rd E w v xs) : Rd E w.drew v xs := r.grow (Below.refl _ _).drew
theorem Rd.form {E : Enc α} {w : World} {v : Value} {xs : List α} (r : Rd E w v xs) : ∃ a cap, v = .slice a xs.length cap := by
  obtain ⟨a, cap, e, -⟩ := r.fits
  exact ⟨a, cap, e⟩
theorem Rd.len {E : Enc α} {w : World} {v : Value} {xs : List α} (r : Rd E w v xs) : xs.length ≤ 9223372036854775807 := by
  obtain ⟨a, cap, e, h1, h2, h3⟩ := r.fits
  unfold maxLen at h2; omega
theorem Rd.cap {E : Enc α} {w : World} {a : Option Addr} {n cap : Nat} {xs : List α} (r : Rd E w (.slice a n cap) xs) : n = xs.length ∧ n ≤ cap ∧ cap ≤ 9223372036854775807 := by
  obtain ⟨a', cap', e, h1, h2, h3⟩ := r.fits
  cases e
  unfold maxLen at h2; exact ⟨rfl, h1, h2⟩
theorem Rd.cell {E : Enc α} {w : World} {n cap : Nat} {a : Option Addr} {xs : List α} (r : Rd E w (.slice a n cap) xs) (i j : Nat) (hi' : i < xs.length) (hj : j < E.k) :
    ∃ b off, a = some ⟨b, off, none⟩ ∧ b < w.heap.size ∧ w.cell? ⟨b, off + (i * E.k + j), none⟩ = some ((E.put xs[i])[j]'(by rw [E.len]; exact hj)) := by
  obtain ⟨a', cap', e, h1, h2, h3⟩ := r.fits
  cases e
  obtain ⟨b, off, rfl, h4, h5⟩ := h3 (by intro e; subst e; simp at hi')
  refine ⟨b, off, rfl, h4, h5 _ _ ?_⟩
  rw [E.row_get xs i j hi' hj]
  exact List.getElem?_eq_getElem _
theorem Rd.start {E : Enc α} {w : World} {n cap : Nat} {a : Option Addr} {xs : List α} (r : Rd E w (.slice a n cap) xs) (h : 1 ≤ xs.length) : ∃ b off, a = some ⟨b, off, none⟩ ∧ b < w.heap.size ∧ w.rangeAt b off (E.row xs) := by
  obtain ⟨a', cap', e, h1, h2, h3⟩ := r.fits
  cases e
  exact h3 (by intro e; subst e; simp at h)
theorem rd_zero (E : Enc α) (w : World) (a : Option Addr) (cap : Nat) (hc : cap ≤ maxLen) : Rd E w (.slice a 0 cap) [] := ⟨a, cap, rfl, Nat.zero_le _, hc, fun h => absurd rfl h⟩
theorem Rd.take {E : Enc α} {w : World} {b off n cap : Nat} {xs : List α} (r : Rd E w (.slice (some ⟨b, off, none⟩) n cap) xs) (m : Nat) (hm : m ≤ xs.length) : Rd E w (.slice (some ⟨b, off, none⟩) m cap) (xs.take m) := by
  obtain ⟨a', cap', e, h1, h2, h3⟩ := r.fits
  cases e
  have hl : (xs.take m).length = m := by rw [List.length_take]; omega
  refine ⟨_, cap, by rw [hl], by omega, h2, fun hn => ?_⟩
  have hx : xs ≠ [] := fun e => hn (by rw [e]; simp)
  obtain ⟨b', off', e2, h4, h5⟩ := h3 hx
  cases e2
  refine ⟨b, off, rfl, h4, fun j u hj => h5 j u ?_⟩
  rw [← E.row_take, List.getElem?_take] at hj
  split at hj
  · exact hj
  · cases hj
theorem Rd.drop {E : Enc α} {w : World} {b off n cap : Nat} {xs : List α} (r : Rd E w (.slice (some ⟨b, off, none⟩) n cap) xs) (m : Nat) (hm : m ≤ xs.length) : Rd E w (.slice (some ⟨b, off + m * E.k, none⟩) (n - m) (cap - m)) (xs.drop m) := by
  obtain ⟨a', cap', e, h1, h2, h3⟩ := r.fits
  cases e
  have hl : (xs.drop m).length = xs.length - m := by rw [List.length_drop]
  refine ⟨_, cap - m, by rw [hl], by omega, by omega, fun hn => ?_⟩
  have hx : xs ≠ [] := fun e => hn (by rw [e]; simp)
  obtain ⟨b', off', e2, h4, h5⟩ := h3 hx
  cases e2
  refine ⟨b, off + m * E.k, rfl, h4, fun j u hj => ?_⟩
  rw [Nat.add_assoc]
  refine h5 (m * E.k + j) u ?_
  rw [← E.row_drop xs m hm, List.getElem?_drop] at hj
  exact hj
/-- the rest of a slice: at the end of its capacity it begins where the slice does -/
theorem Rd.rest {E : Enc α} {w : World} {b off n cap : Nat} {xs : List α} (r : Rd E w (.slice (some ⟨b, off, none⟩) n cap) xs) (m : Nat) (hm : m ≤ xs.length) :
    (m < cap ∧ Hid (Rd E w (.slice (some ⟨b, off + m * E.k, none⟩) (n - m) (cap - m)) (xs.drop m))) ∨ (m = cap ∧ n = m ∧ xs.drop m = [] ∧ Hid (Rd E w (.slice (some ⟨b, off, none⟩) 0 0) (xs.drop m))) := by
  have hd := r.drop m hm
  obtain ⟨e, h1, h2⟩ := r.cap
  by_cases hc : m < cap
  · exact .inl ⟨hc, hd⟩
  · have e2 : xs.drop m = [] := List.drop_eq_nil_of_le (by omega)
    refine .inr ⟨by omega, by omega, e2, ?_⟩
    rw [e2]
    exact rd_zero E w _ 0 (Nat.zero_le _)

/-- the things xs lie in a row of their own, in a block from lo up to hi; or there are none, and there is no room -/
structure Own (E : Enc α) (w : World) (lo hi : Nat) (v : Value) (xs : List α) : Prop where
  row : (xs = [] ∧ ∃ a, v = .slice a 0 0) ∨ ∃ g cap cur, v = .slice (some ⟨g, 0, none⟩) xs.length cap ∧ (lo ≤ g ∧ g < hi) ∧ w.heap[g]? = some (.cells cur E.t (0, 0)) ∧ xs.length ≤ cap ∧ cap ≤ maxLen ∧ cur.size = cap * E.k ∧ cur.toList.take (xs.length * E.k) = E.row xs
theorem Own.keepT {E : Enc α} {w w' : World} {lo hi : Nat} {v : Value} {xs : List α} (o : Own E w lo hi v xs) (s : ∀ g cur, w.heap[g]? = some (.cells cur E.t (0, 0)) → lo ≤ g → g < hi → w'.heap[g]? = w.heap[g]?) : Own E w' lo hi v xs := by
  rcases o.row with h | ⟨g, cap, cur, e, hg, hb, h⟩
  · exact ⟨.inl h⟩
  · exact ⟨.inr ⟨g, cap, cur, e, hg, by rw [s g cur hb hg.1 hg.2]; exact hb, h⟩⟩
theorem Own.keep {E : Enc α} {w w' : World} {lo hi : Nat} {v : Value} {xs : List α} (o : Own E w lo hi v xs) (s : ∀ k, lo ≤ k → k < hi → w'.heap[k]? = w.heap[k]?) : Own E w' lo hi v xs := o.keepT fun g _ _ h1 h2 => s g h1 h2
theorem Own.grow {E : Enc α} {w w' : World} {lo hi : Nat} {v : Value} {xs : List α} (o : Own E w lo hi v xs) (hb : Below w.heap.size w w') : Own E w' lo hi v xs := o.keepT fun g cur h _ _ => hb.block g (Array.getElem?_eq_some_iff.1 h).1
theorem Own.below {E : Enc α} {w w' : World} {lo hi B : Nat} {v : Value} {xs : List α} (o : Own E w lo hi v xs) (hb : Below B w w') (hB : hi ≤ B) : Own E w' lo hi v xs := o.keep fun k _ h2 => hb.block k (by omega)
theorem Own.within {E : Enc α} {w w' : World} {lo hi l2 h2 : Nat} {v : Value} {xs : List α} (o : Own E w lo hi v xs) (hw : Within l2 h2 w w') (hd : hi ≤ l2 ∨ h2 ≤ lo) : Own E w' lo hi v xs := o.keepT fun g cur h _ _ => hw.block g (Array.getElem?_eq_some_iff.1 h).1 (by omega)
theorem Own.only {E : Enc α} {w w' : World} {lo hi b : Nat} {v : Value} {xs : List α} {t : TypeId} {vs : List Value} (o : Own E w lo hi v xs) (h : Only b w w') (hb : VBlk w b t vs) (ht : E.t ≠ t) : Own E w' lo hi v xs := o.keepT fun g cur hg _ _ => h.2.1 g fun e => by
  rw [e] at hg
  have := hg.symm.trans hb
  simp at this
  exact ht this.2
theorem Own.wide {E : Enc α} {w : World} {lo hi lo' hi' : Nat} {v : Value} {xs : List α} (o : Own E w lo hi v xs) (h1 : lo' ≤ lo) (h2 : hi ≤ hi') : Own E w lo' hi' v xs := by
  rcases o.row with h | ⟨g, cap, cur, e, hg, hb, h⟩
  · exact ⟨.inl h⟩
  · exact ⟨.inr ⟨g, cap, cur, e, ⟨by omega, by omega⟩, hb, h⟩⟩
theorem Own.top {E : Enc α} {w : World} {lo hi : Nat} {v : Value} {xs : List α} (o : Own E w lo hi v xs) : Own E w lo w.heap.size v xs := by
  rcases o.row with h | ⟨g, cap, cur, e, hg, hb, h⟩
  · exact ⟨.inl h⟩
  · exact ⟨.inr ⟨g, cap, cur, e, ⟨hg.1, (Array.getElem?_eq_some_iff.1 hb).1⟩, hb, h⟩⟩
theorem own_zero (E : Enc α) (w : World) (lo hi : Nat) (a : Option Addr) : Own E w lo hi (.slice a 0 0) [] := ⟨.inl ⟨rfl, a, rfl⟩⟩
theorem Own.rd {E : Enc α} {w : World} {lo hi : Nat} {v : Value} {xs : List α} (o : Own E w lo hi v xs) : Rd E w v xs := by
  rcases o.row with ⟨rfl, a, rfl⟩ | ⟨g, cap, cur, rfl, hg, hb, hc1, hc2, hc3, htk⟩
  · exact rd_zero E w a 0 (Nat.zero_le _)
  · refine ⟨some ⟨g, 0, none⟩, cap, rfl, hc1, hc2, fun _ => ⟨g, 0, rfl, (Array.getElem?_eq_some_iff.1 hb).1, fun j u hj => ?_⟩⟩
    rw [cell_of_row _ _ _ _ _ _ hb]
    rw [← htk, List.getElem?_take] at hj
    split at hj
    · simpa using hj
    · cases hj
theorem Own.slice {E : Enc α} {w : World} {lo hi : Nat} {v : Value} {xs : List α} (o : Own E w lo hi v xs) : ∃ a n k, v = .slice a n k := by
  obtain ⟨a, cap, e⟩ := o.rd.form
  exact ⟨a, _, cap, e⟩
theorem Own.form {E : Enc α} {w : World} {lo hi : Nat} {v : Value} {xs : List α} (o : Own E w lo hi v xs) (hn : 1 ≤ xs.length) : ∃ g cap, v = .slice (some ⟨g, 0, none⟩) xs.length cap ∧ lo ≤ g ∧ g < hi ∧ g < w.heap.size := by
  rcases o.row with ⟨rfl, -⟩ | ⟨g, cap, cur, rfl, hg, hb, -⟩
  · simp at hn
  · exact ⟨g, cap, rfl, hg.1, hg.2, (Array.getElem?_eq_some_iff.1 hb).1⟩
theorem Own.cell {E : Enc α} {w : World} {lo hi n cap : Nat} {a : Option Addr} {xs : List α} (o : Own E w lo hi (.slice a n cap) xs) (i j : Nat) (hi' : i < xs.length) (hj : j < E.k) :
    ∃ g, a = some ⟨g, 0, none⟩ ∧ (lo ≤ g ∧ g < hi) ∧ w.cell? ⟨g, i * E.k + j, none⟩ = some ((E.put xs[i])[j]'(by rw [E.len]; exact hj)) ∧ w.frozen? ⟨g, i * E.k + j, none⟩ = false := by
  obtain ⟨b, off, e, -, hc⟩ := o.rd.cell i j hi' hj
  rcases o.row with ⟨rfl, -⟩ | ⟨g, cap', cur, e', hg, hb, -⟩
  · simp at hi'
  · cases e'
    cases e
    rw [Nat.zero_add] at hc
    exact ⟨_, rfl, hg, hc, frozen_of_row _ _ _ _ _ hb⟩
theorem Own.set {E : Enc α} {w : World} {lo hi g n cap : Nat} {xs : List α} (o : Own E w lo hi (.slice (some ⟨g, 0, none⟩) n cap) xs) (i j : Nat) (hi' : i < xs.length) (hj : j < E.k) (u : Value) (y : α) (hy : E.put y = (E.put xs[i]).set j u) :
    Own E (w.setCell ⟨g, i * E.k + j, none⟩ u) lo hi (.slice (some ⟨g, 0, none⟩) n cap) (xs.set i y) := by
  rcases o.row with ⟨rfl, -⟩ | ⟨g', cap', cur, e', hg, hb, hc1, hc2, hc3, htk⟩
  · simp at hi'
  · cases e'
    refine ⟨.inr ⟨g, cap, cur.setIfInBounds (i * E.k + j) u, by rw [List.length_set], hg, heap_setCell_same _ _ _ _ _ _ hb, by rw [List.length_set]; exact hc1, hc2, by simpa using hc3, ?_⟩⟩
    rw [Array.toList_setIfInBounds, List.length_set, List.take_set, htk, E.row_set xs i j hi' hj u y hy]
theorem Own.owns {E : Enc α} {w : World} {lo hi : Nat} {v : Value} {xs : List α} (o : Own E w lo hi v xs) : (xs = [] ∧ ∃ a, v = .slice a 0 0) ∨ w.ownsRow lo E.t E.k v xs.length (E.row xs) := by
  rcases o.row with h | ⟨g, cap, cur, e, hg, hb, h1, h2, h3, h4⟩
  · exact .inl h
  · exact .inr ⟨E.row_len xs, .inr ⟨g, cap, cur, e, hg.1, hb, h1, h2, h3, h4⟩⟩
theorem own_of {E : Enc α} {w : World} {lo : Nat} {v : Value} {xs : List α} (h : w.ownsRow lo E.t E.k v xs.length (E.row xs)) : Own E w lo w.heap.size v xs := by
  rcases h.2 with ⟨e, h0⟩ | ⟨g, cap, cur, e, hg, hb, h1, h2, h3, h4⟩
  · exact ⟨.inl ⟨List.eq_nil_of_length_eq_zero h0, none, e⟩⟩
  · exact ⟨.inr ⟨g, cap, cur, e, ⟨hg, (Array.getElem?_eq_some_iff.1 hb).1⟩, hb, h1, h2, h3, h4⟩⟩

/-- what the program knows of the type -/
structure Info (E : Enc α) : Prop where
  ex : ∃ (i : TypeInfo) (z : Value), Try.prog.info? E.t = some i ∧ i.zero = some z ∧ i.size = E.k ∧ i.bytes ≤ 1024 ∧ z.cells.size = E.k

/-- of the blocks that were there only such of the type t from lo on may be turned -/
structure Ty (lo : Nat) (t : TypeId) (w w' : World) : Prop where
  low : Below lo w w'
  keep : ∀ (k : Nat) (cur : Array Value) (t' : TypeId) (f : Nat × Nat), w.heap[k]? = some (.cells cur t' f) → t' ≠ t → w'.heap[k]? = w.heap[k]?
theorem Ty.refl (lo : Nat) (t : TypeId) (w : World) : Ty lo t w w := ⟨Below.refl _ _, fun _ _ _ _ _ _ => rfl⟩
theorem Ty.trans {lo : Nat} {t : TypeId} {x y z : World} (h : Ty lo t x y) (k : Ty lo t y z) : Ty lo t x z := ⟨h.low.trans k.low, fun j cur t' f hj ht => (k.keep j cur t' f (by rw [h.keep j cur t' f hj ht]; exact hj) ht).trans (h.keep j cur t' f hj ht)⟩
theorem Ty.of_below {lo : Nat} {t : TypeId} {w w' : World} (h : Below w.heap.size w w') (hl : lo ≤ w.heap.size) : Ty lo t w w' := ⟨h.mono hl, fun k cur t' f hk _ => h.block k (Array.getElem?_eq_some_iff.1 hk).1⟩
theorem Ty.vblk {lo : Nat} {t t' : TypeId} {w w' : World} {b : Nat} {vs : List Value} (h : Ty lo t w w') (hb : VBlk w b t' vs) (hn : t' ≠ t) : VBlk w' b t' vs := hb.of (h.keep b _ t' _ hb hn)
theorem Ty.own {lo l2 h2 : Nat} {t : TypeId} {E : Enc α} {w w' : World} {v : Value} {xs : List α} (h : Ty lo t w w') (o : Own E w l2 h2 v xs) (hn : E.t ≠ t) : Own E w' l2 h2 v xs := o.keepT fun g cur hg _ _ => h.keep g cur E.t _ hg hn

theorem run_append_zero {P : Program} (w : World) (t ty e : TypeId) (i : TypeInfo) (ht : P.underlying t = some (.slice e)) (hi : P.info? e = some i) (base : Option Addr) (n c : Nat) (hn : n ≤ c) (b' : Option Addr) (c' : Nat) :
    (Builtin.append_ #[t, t] ty #[.slice base n c, .slice b' 0 c']).run P w = .ok (.slice base n c) w := by
  have hf : (Builtin.firstCells i.size 0 (.slice b' 0 c')).run P w = .ok #[] w := by
    cases b' with
    | none => exact run_firstCells_none w i.size 0 0 c'
    | some a => exact run_firstCells_some w i.size 0 a 0 c' [] (by simp) (fun j v hj => by simp at hj)
  cases base <;> simp [Builtin.append_, run_underlying ht, sizeOf, typeInfo, hi, Builtin.lenOf, hn, hf, storeCells]

/-- things are appended to a row that the call owns -/
theorem run_append_g {E : Enc α} (I : Info E) (w : World) (t ty : TypeId) (ht : Try.prog.underlying t = some (.slice E.t)) (lo hi : Nat) (v : Value) (xs : List α) (o : Own E w lo hi v xs) (hlo : lo ≤ w.heap.size) (vx : Value) (ys : List α) (r : Rd E w vx ys) (hlen : xs.length + ys.length ≤ 1073741824) :
    ∃ v' w', (Builtin.append_ #[t, t] ty #[v, vx]).run Try.prog w = .ok v' w' ∧ Own E w' lo w'.heap.size v' (xs ++ ys) ∧ Ty lo E.t w w' := by
  obtain ⟨i0, z, hi0, hz0, hz1, hz2, hz3⟩ := I.ex
  obtain ⟨ax, cx, rfl, hx1, hx2, hx3⟩ := r.fits
  have hby : (xs.length + ys.length) * i0.bytes ≤ 140737488355328 := Nat.le_trans (Nat.mul_le_mul hlen hz2) (by omega)
  by_cases h0 : ys = []
  · subst h0
    obtain ⟨a, cap, rfl, h1, h2, -⟩ := o.rd.fits
    exact ⟨_, w, run_append_zero w t ty E.t i0 ht hi0 a xs.length cap h1 ax cx, by simpa using o.top, Ty.refl _ _ _⟩
  · obtain ⟨b, off, rfl, hb, hr⟩ := hx3 h0
    have hnews : ∀ j u, (E.row ys)[j]? = some u → w.cell? ((⟨b, off, none⟩ : Addr).add j) = some u := fun j u hj => by rw [Addr.add_mid]; exact hr j u hj
    have hy1 : 0 < ys.length := List.length_pos_iff.2 h0
    have grown : ∀ row : Option Nat, (∀ k, row = some k → lo ≤ k ∧ ∃ cur f, w.heap[k]? = some (.cells cur E.t f)) → ∀ w', w.grownBy w' row → Ty lo E.t w w' := fun row hrow w' hg =>
      ⟨below_grown hg hlo (fun k hk => (hrow k hk).1), fun k cur t' f hk hn => hg.block k (Array.getElem?_eq_some_iff.1 hk).1 (fun e => by
        obtain ⟨-, cur', f', h'⟩ := hrow k e.symm
        have := hk.symm.trans h'
        simp at this
        exact hn this.2.1)⟩
    rcases o.owns with ⟨rfl, a, rfl⟩ | ow
    · cases a with
      | none =>
        obtain ⟨v', w', h1, h2, h3, -⟩ := run_append_own (P := Try.prog) w lo t ty E.t i0 z E.k i0.bytes ht hi0 hz0 hz1 rfl hz3 E.pos (.slice none 0 0) 0 [] (World.ownsRow_nil w lo E.t E.k) ⟨b, off, none⟩ ys.length cx (E.row ys) (E.row_len ys) hnews (E.row_cells ys) (by unfold maxLen; simp at hlen; omega) (by simpa using hby) hlo
        refine ⟨v', w', h1, own_of (by simpa using h2), grown _ (fun k hk => by cases hk) w' h3⟩
      | some g =>
        obtain ⟨v', w', h1, h2, h3⟩ := run_append_arg_grows (P := Try.prog) (w := w) t ty E.t i0 z E.k i0.bytes ht hi0 hz0 hz1 rfl hz3 E.pos g 0 0 [] (by simp) (fun j u hj => by simp at hj) ⟨b, off, none⟩ ys.length cx (E.row ys) (E.row_len ys) hnews (by omega) (by unfold maxLen; simp at hlen; omega) (by simpa using hby)
        refine ⟨v', w', h1, ?_, grown _ (fun k hk => by cases hk) w' h3⟩
        have h4 : Own E w' w.heap.size w'.heap.size v' ys := own_of (by simpa using h2)
        exact (by simpa using h4.wide hlo (Nat.le_refl _))
    · obtain ⟨v', w', h1, h2, h3, -⟩ := run_append_own (P := Try.prog) w lo t ty E.t i0 z E.k i0.bytes ht hi0 hz0 hz1 rfl hz3 E.pos v xs.length (E.row xs) ow ⟨b, off, none⟩ ys.length cx (E.row ys) (E.row_len ys) hnews (E.row_cells ys) (by unfold maxLen; omega) hby hlo
      rw [← E.row_append, ← List.length_append] at h2
      refine ⟨v', w', h1, own_of h2, grown _ (fun k hk => ⟨(ow.lt k hk).1, ?_⟩) w' h3⟩
      rcases ow.2 with ⟨rfl, -⟩ | ⟨g, cap, cur, rfl, -, hb', -⟩
      · cases hk
      · cases hk
        exact ⟨cur, _, hb'⟩

section laws
variable {ops : Array Oper} {rest : List Oper} {o : Oper} {a : Act} {w : World} {Q : Exit → Act → World → Prop} {K : Act → World → Prop} {X : Prop}
theorem wpList_append_g {E : Enc α} (I : Info E) (hgd : o.guard = none) (s x : Operand) (t : TypeId) (ho : o.op = .call { callee := .builtin .append, args := #[s, x], argTypes := #[t, t] }) (ht : Try.prog.underlying t = some (.slice E.t)) (lo hi : Nat) (v : Value) (xs : List α) (hs : a.eval s = v) (own : Own E w lo hi v xs) (hlo : lo ≤ w.heap.size) (vx : Value) (ys : List α) (hx : a.eval x = vx) (r : Rd E w vx ys) (hlen : xs.length + ys.length ≤ 1073741824)
    (h : ∀ v' w', Own E w' lo w'.heap.size v' (xs ++ ys) → Ty lo E.t w w' → wpList Try.prog ops Q rest (a.put o.dst v') w') : wpList Try.prog ops Q (o :: rest) a w := by
  obtain ⟨v', w', h1, h2, h3⟩ := run_append_g I w t o.type ht lo hi v xs own hlo vx ys r hlen
  refine wpList_val hgd (v := v') (w' := w') ?_ (h v' w' h2 h3)
  simp [execOp, ho, resolve, invoke, builtin, hs, hx, h1, Result.andThen]
theorem step_append_g {E : Enc α} (I : Info E) (hgd : o.guard = none) (s x : Operand) (t : TypeId) (ho : o.op = .call { callee := .builtin .append, args := #[s, x], argTypes := #[t, t] }) (ht : Try.prog.underlying t = some (.slice E.t)) (lo hi : Nat) (v : Value) (xs : List α) (hs : a.eval s = v) (own : Own E w lo hi v xs) (hlo : lo ≤ w.heap.size) (vx : Value) (ys : List α) (hx : a.eval x = vx) (r : Rd E w vx ys) (hlen : xs.length + ys.length ≤ 1073741824)
    (h : ∀ v' w', Own E w' lo w'.heap.size v' (xs ++ ys) → Ty lo E.t w w' → K (a.put o.dst v') w') : if Region.wanted o (yielded ops a.tmps) = true then Oper.wp Try.prog o a w K Q else X := by
  obtain ⟨v', w', h1, h2, h3⟩ := run_append_g I w t o.type ht lo hi v xs own hlo vx ys r hlen
  refine step_val hgd (v := v') (w' := w') ?_ (h v' w' h2 h3)
  simp [execOp, ho, resolve, invoke, builtin, hs, hx, h1, Result.andThen]
theorem wpList_skp (hgd : o.guard = none) {w' : World} (hr : (execOp a.eval o).run Try.prog w = .ok .skip w') (h : wpList Try.prog ops Q rest (a.put o.dst undef) w') : wpList Try.prog ops Q (o :: rest) a w :=
  wpList_plain hgd fun K hK => by unfold Oper.wp; rw [hr]; exact hK _ _ h
end laws
/-- one new thing lies in a block of its own -/
theorem rd_new {E : Enc α} (w : World) (x : α) (cs : Array Value) (h : E.put x = cs.toList) (f : Nat × Nat := (0, 0)) : Rd E (w.alloc (.cells cs E.t)) (.slice (some ⟨w.heap.size, 0, none⟩) 1 1) [x] := by
  refine ⟨_, 1, rfl, Nat.le_refl _, by unfold maxLen; omega, fun _ => ⟨w.heap.size, 0, rfl, by simp, fun j u hj => ?_⟩⟩
  rw [Enc.row_one', h] at hj
  rw [cell_of_row _ _ _ _ _ _ (heap_alloc_new w (.cells cs E.t))]
  simpa using hj
theorem vblk_grow {w w' : World} {b : Nat} {t : TypeId} {vs : List Value} (h : VBlk w b t vs) (hb : Below w.heap.size w w') : VBlk w' b t vs := h.of (hb.block b h.lt)
theorem vblk_only {w w' : World} {b b' : Nat} {t : TypeId} {vs : List Value} (h : VBlk w b t vs) (ho : Only b' w w') (hn : b ≠ b') : VBlk w' b t vs := h.of (ho.2.1 b hn)
theorem only_set (w : World) (b j : Nat) (u : Value) : Only b w (w.setCell ⟨b, j, none⟩ u) := only_setCells w b [u] j
end Go.Proofs.Ytmnjmghlkiljhaa.ro
