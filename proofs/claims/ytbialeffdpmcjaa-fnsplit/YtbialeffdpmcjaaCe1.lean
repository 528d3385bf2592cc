/- Cells of the heap in memory: how a slice of them is read, and how one that a call made is owned. -/
import Derived.Test.YtbialeffdpmcjaaCeOps
namespace Go.Proofs.Ytbialeffdpmcjaa.ce
open Go.ChangeShapes Go.WideShapes Go.ChangeAt Go.RowKit
set_option linter.unusedVariables false

/-- one cell -/
structure C where
  key : Int
  value : Int
  next : Int
  gone : Bool
instance : DecidableEq C := fun a b =>
  if h : a.key = b.key ∧ a.value = b.value ∧ a.next = b.next ∧ a.gone = b.gone then isTrue (by obtain ⟨h1, h2, h3, h4⟩ := h; cases a; cases b; simp_all) else isFalse (by intro e; subst e; simp at h)
/-- a cell's values -/
def cv (c : C) : List Value := [.int .i64 c.key, .int .i64 c.value, .int .i64 c.next, .bool c.gone]
def cvs (h : List C) : List Value := h.flatMap cv
theorem cvs_len (h : List C) : (cvs h).length = h.length * 4 := by
  induction h with
  | nil => rfl
  | cons c h ih => simp only [cvs, List.flatMap_cons, List.length_append, List.length_cons] at ih ⊢; rw [ih]; simp [cv]; omega
theorem cvs_one (h : List C) : ∀ v ∈ cvs h, v.oneCell' = true := by
  intro v hv
  obtain ⟨c, -, hc⟩ := List.mem_flatMap.1 hv
  simp only [cv, List.mem_cons, List.not_mem_nil, or_false] at hc
  rcases hc with rfl | rfl | rfl | rfl <;> rfl
theorem cvs_append (g h : List C) : cvs (g ++ h) = cvs g ++ cvs h := by simp [cvs]
theorem cvs_get (h : List C) (i : Nat) (hi : i < h.length) (j : Nat) (hj : j < 4) : (cvs h)[i * 4 + j]? = (cv h[i])[j]? := by
  induction h generalizing i with
  | nil => simp at hi
  | cons c h ih =>
    simp only [cvs, List.flatMap_cons] at ih ⊢
    cases i with
    | zero => rw [List.getElem?_append_left (by simp [cv]; omega)]; simp
    | succ i =>
      have h4 : (cv c).length = 4 := rfl
      rw [List.getElem?_append_right (by rw [h4]; omega), h4, show (i + 1) * 4 + j - 4 = i * 4 + j by omega, ih i (by simpa using hi)]
      simp
theorem cvs_set (h : List C) (i : Nat) (hi : i < h.length) (j : Nat) (hj : j < 4) (u : Value) (c : C) (hc : cv c = (cv h[i]).set j u) : (cvs h).set (i * 4 + j) u = cvs (h.set i c) := by
  apply List.ext_getElem?
  intro k
  rw [List.getElem?_set]
  by_cases hk : k < h.length * 4
  · obtain ⟨i', j', rfl, hj'⟩ : ∃ i' j', k = i' * 4 + j' ∧ j' < 4 := ⟨k / 4, k % 4, by omega, by omega⟩
    have hi' : i' < h.length := by omega
    rw [cvs_get (h.set i c) i' (by simpa using hi') j' hj', cvs_get h i' hi' j' hj', cvs_len]
    by_cases e : i = i'
    · subst e
      rw [List.getElem_set_self, hc, List.getElem?_set]
      have h4 : (cv h[i]).length = 4 := rfl
      rw [h4]
      by_cases e2 : j = j'
      · subst e2; simp [hk, hj]
      · rw [if_neg (by omega), if_neg e2]
    · rw [List.getElem_set_ne e, if_neg (by omega)]
  · rw [List.getElem?_eq_none (l := cvs h) (by rw [cvs_len]; omega), List.getElem?_eq_none (l := cvs (h.set i c)) (by rw [cvs_len, List.length_set]; omega), if_neg (by omega)]

/-- the cells h are read at the slice v, in blocks under hi -/
structure Rd (w : World) (hi : Nat) (v : Value) (h : List C) : Prop where
  fits : ∃ a cap, v = .slice a h.length cap ∧ h.length ≤ cap ∧ cap ≤ maxLen ∧ (h ≠ [] → ∃ b off, a = some ⟨b, off, none⟩ ∧ b < hi ∧ w.rangeAt b off (cvs h))
/-- the blocks under hi are as they were -/
theorem range_of {w w' : World} {b o : Nat} {cs : List Value} (h : w.rangeAt b o cs) (e : w'.heap[b]? = w.heap[b]?) : w'.rangeAt b o cs := fun j v hv => by
  rw [World.cell?_of_block (w := w) e]; exact h j v hv
theorem Rd.keep {w w' : World} {hi : Nat} {v : Value} {h : List C} (r : Rd w hi v h) (s : ∀ k, k < hi → w'.heap[k]? = w.heap[k]?) : Rd w' hi v h := by
  obtain ⟨a, cap, e, h1, h2, h3⟩ := r.fits
  refine ⟨a, cap, e, h1, h2, fun hn => ?_⟩
  obtain ⟨b, off, e2, h4, h5⟩ := h3 hn
  exact ⟨b, off, e2, h4, range_of h5 (s b h4)⟩
theorem Rd.below {w w' : World} {hi B : Nat} {v : Value} {h : List C} (r : Rd w hi v h) (hb : Below B w w') (hB : hi ≤ B) : Rd w' hi v h := r.keep fun k hk => hb.block k (by omega)
theorem Rd.drew {w : World} {hi : Nat} {v : Value} {h : List C} (r : Rd w hi v h) : Rd w.drew hi v h := r.keep fun k hk => rfl
theorem Rd.drewN {w : World} {hi : Nat} {v : Value} {h : List C} (r : Rd w hi v h) (n : Nat) : Rd (w.drewN n) hi v h := r.keep fun k hk => rfl
theorem Rd.wide {w : World} {hi hi' : Nat} {v : Value} {h : List C} (r : Rd w hi v h) (hh : hi ≤ hi') : Rd w hi' v h := by
  obtain ⟨a, cap, e, h1, h2, h3⟩ := r.fits
  refine ⟨a, cap, e, h1, h2, fun hn => ?_⟩
  obtain ⟨b, off, e2, h4, h5⟩ := h3 hn
  exact ⟨b, off, e2, by omega, h5⟩
theorem Rd.form {w : World} {hi : Nat} {v : Value} {h : List C} (r : Rd w hi v h) : ∃ a cap, v = .slice a h.length cap := by
  obtain ⟨a, cap, e, -⟩ := r.fits
  exact ⟨a, cap, e⟩
theorem Rd.len {w : World} {hi : Nat} {v : Value} {h : List C} (r : Rd w hi v h) : h.length ≤ 9223372036854775807 := by
  obtain ⟨a, cap, e, h1, h2, h3⟩ := r.fits
  unfold maxLen at h2; omega
theorem range_cell {w : World} {b off : Nat} {h : List C} (r : w.rangeAt b off (cvs h)) (i : Nat) (hi : i < h.length) :
    w.cell? ⟨b, off + i * 4, none⟩ = some (.int .i64 (h[i]).key) ∧ w.cell? ⟨b, off + i * 4 + 1, none⟩ = some (.int .i64 (h[i]).value) ∧ w.cell? ⟨b, off + i * 4 + 2, none⟩ = some (.int .i64 (h[i]).next) ∧ w.cell? ⟨b, off + i * 4 + 3, none⟩ = some (.bool (h[i]).gone) := by
  refine ⟨?_, ?_, ?_, ?_⟩
  · have := r (i * 4 + 0) _ (cvs_get h i hi 0 (by omega)); exact this
  · have := r (i * 4 + 1) _ (cvs_get h i hi 1 (by omega)); rw [← Nat.add_assoc] at this; exact this
  · have := r (i * 4 + 2) _ (cvs_get h i hi 2 (by omega)); rw [← Nat.add_assoc] at this; exact this
  · have := r (i * 4 + 3) _ (cvs_get h i hi 3 (by omega)); rw [← Nat.add_assoc] at this; exact this
theorem Rd.cell {w : World} {hi n cap : Nat} {a : Option Addr} {h : List C} (r : Rd w hi (.slice a n cap) h) (i : Nat) (hi' : i < h.length) : ∃ b off, a = some ⟨b, off, none⟩ ∧ b < hi ∧
    w.cell? ⟨b, off + i * 4, none⟩ = some (.int .i64 (h[i]).key) ∧ w.cell? ⟨b, off + i * 4 + 1, none⟩ = some (.int .i64 (h[i]).value) ∧ w.cell? ⟨b, off + i * 4 + 2, none⟩ = some (.int .i64 (h[i]).next) ∧ w.cell? ⟨b, off + i * 4 + 3, none⟩ = some (.bool (h[i]).gone) := by
  obtain ⟨a', cap', e, h1, h2, h3⟩ := r.fits
  cases e
  obtain ⟨b, off, rfl, h4, h5⟩ := h3 (by intro e; subst e; simp at hi')
  exact ⟨b, off, rfl, h4, range_cell h5 i hi'⟩

theorem hid_ex {α : Type} (x : α) : ∃ y, Hid (x = y) := ⟨x, (rfl : x = x)⟩

def has (h : List C) (p : Int) : Prop := 0 ≤ p ∧ p < h.length
instance (h : List C) (p : Int) : Decidable (has h p) := by unfold has; infer_instance
def nth (h : List C) (p : Int) : C := h.getD p.toNat ⟨0, 0, 0, false⟩
def leads (h : List C) (key next : Int) : Prop := next = -1 ∨ has h next ∧ key < (nth h next).key
instance (h : List C) (key next : Int) : Decidable (leads h key next) := by unfold leads; infer_instance
theorem nth_nat (h : List C) (i : Nat) (hi : i < h.length) : nth h (i : Int) = h[i] := by simp [nth, hi]

end Go.Proofs.Ytbialeffdpmcjaa.ce
