/- Slices of rows of integers in memory: how one is read, how one that a call made is owned, and what keeps them. -/
import Derived.Test.YtgdoclaifnnpgaaSkLaws
namespace Go.Proofs.Ytgdoclaifnnpgaa.sk
open Go.ChangeShapes Go.WideShapes Go.ChangeAt Go.RowKit
set_option linter.unusedVariables false

/-- the blocks from lo up to hi are as they were -/
def Same (lo hi : Nat) (w w' : World) : Prop := ∀ k, lo ≤ k → k < hi → w'.heap[k]? = w.heap[k]?
theorem Same.refl (lo hi : Nat) (w : World) : Same lo hi w w := fun _ _ _ => rfl
theorem Same.trans {lo hi : Nat} {a b c : World} (h : Same lo hi a b) (k : Same lo hi b c) : Same lo hi a c := fun j h1 h2 => (k j h1 h2).trans (h j h1 h2)
theorem Same.of_below {B lo hi : Nat} {w w' : World} (h : Below B w w') (hB : hi ≤ B) : Same lo hi w w' := fun k _ h2 => h.block k (by omega)
theorem Same.mono {lo hi lo' hi' : Nat} {w w' : World} (h : Same lo hi w w') (h1 : lo ≤ lo') (h2 : hi' ≤ hi) : Same lo' hi' w w' := fun k a b => h k (by omega) (by omega)

theorem range_of {w w' : World} {b o : Nat} {cs : List Value} (h : w.rangeAt b o cs) (e : w'.heap[b]? = w.heap[b]?) : w'.rangeAt b o cs := fun j v hv => by
  rw [World.cell?_of_block (w := w) e]; exact h j v hv
theorem there_of {w w' : World} {b o n : Nat} (h : w.there b o n) (e : w'.heap[b]? = w.heap[b]?) : w'.there b o n := fun j hj => by
  rw [World.cell?_of_block (w := w) e, World.frozen?_of_block (w := w) e]; exact h j hj

/-- the numbers xs are read at address a -/
def RowR (w : World) (lo hi : Nat) (a : Option Addr) (xs : List Int) : Prop :=
  xs.length ≤ maxLen ∧ (xs = [] ∨ ∃ b off, a = some ⟨b, off, none⟩ ∧ lo ≤ b ∧ b < hi ∧ w.rangeAt b off (ints xs))
/-- the rows R are read at the slice v -/
def Rd (w : World) (lo hi : Nat) (v : Value) (R : List (List Int)) : Prop :=
  R.length ≤ maxLen ∧ ∃ a cap, v = .slice a R.length cap ∧ (R = [] ∨ ∃ b off, a = some ⟨b, off, none⟩ ∧ lo ≤ b ∧ b < hi ∧
    ∀ i (h : i < R.length), ∃ a' c', w.cell? ⟨b, off + i, none⟩ = some (.slice a' (R[i]).length c') ∧ RowR w lo hi a' R[i])

theorem RowR.keep {w w' : World} {lo hi : Nat} {a : Option Addr} {xs : List Int} (h : RowR w lo hi a xs) (s : Same lo hi w w') : RowR w' lo hi a xs := by
  obtain ⟨hl, h⟩ := h
  refine ⟨hl, ?_⟩
  rcases h with h | ⟨b, off, rfl, h1, h2, hr⟩
  · exact .inl h
  · exact .inr ⟨b, off, rfl, h1, h2, range_of hr (s b h1 h2)⟩
theorem RowR.wide {w : World} {lo hi lo' hi' : Nat} {a : Option Addr} {xs : List Int} (h : RowR w lo hi a xs) (h1 : lo' ≤ lo) (h2 : hi ≤ hi') : RowR w lo' hi' a xs := by
  obtain ⟨hl, h⟩ := h
  refine ⟨hl, ?_⟩
  rcases h with h | ⟨b, off, rfl, g1, g2, hr⟩
  · exact .inl h
  · exact .inr ⟨b, off, rfl, by omega, by omega, hr⟩
theorem Rd.keep {w w' : World} {lo hi : Nat} {v : Value} {R : List (List Int)} (h : Rd w lo hi v R) (s : Same lo hi w w') : Rd w' lo hi v R := by
  obtain ⟨hl, a, cap, rfl, h⟩ := h
  refine ⟨hl, a, cap, rfl, ?_⟩
  rcases h with h | ⟨b, off, rfl, h1, h2, hc⟩
  · exact .inl h
  · refine .inr ⟨b, off, rfl, h1, h2, fun i hi => ?_⟩
    obtain ⟨a', c', hcell, hr⟩ := hc i hi
    exact ⟨a', c', by rw [World.cell?_of_block (w := w) (s b h1 h2)]; exact hcell, hr.keep s⟩
theorem Rd.wide {w : World} {lo hi lo' hi' : Nat} {v : Value} {R : List (List Int)} (h : Rd w lo hi v R) (h1 : lo' ≤ lo) (h2 : hi ≤ hi') : Rd w lo' hi' v R := by
  obtain ⟨hl, a, cap, rfl, h⟩ := h
  refine ⟨hl, a, cap, rfl, ?_⟩
  rcases h with h | ⟨b, off, rfl, g1, g2, hc⟩
  · exact .inl h
  · refine .inr ⟨b, off, rfl, by omega, by omega, fun i hi => ?_⟩
    obtain ⟨a', c', hcell, hr⟩ := hc i hi
    exact ⟨a', c', hcell, hr.wide h1 h2⟩
theorem Rd.below {w w' : World} {lo hi B : Nat} {v : Value} {R : List (List Int)} (h : Rd w lo hi v R) (hb : Below B w w') (hB : hi ≤ B) : Rd w' lo hi v R := h.keep (.of_below hb hB)

/-- a row that may be written: it begins its block -/
def Row (w : World) (b : Nat) (xs : List Int) : Prop := b < w.heap.size ∧ w.rangeAt b 0 (ints xs) ∧ w.there b 0 xs.length
theorem Row.cell {w : World} {b : Nat} {xs : List Int} (h : Row w b xs) (i : Nat) (hi : i < xs.length) : w.cell? ⟨b, i, none⟩ = some (.int .i64 xs[i]) := by
  have := h.2.1 i (.int .i64 xs[i]) (by simp [ints, hi])
  simpa using this
theorem Row.frozen {w : World} {b : Nat} {xs : List Int} (h : Row w b xs) (i : Nat) (hi : i < xs.length) : w.frozen? ⟨b, i, none⟩ = false := by
  have := (h.2.2 i hi).2
  simpa using this
theorem Row.of {w w' : World} {b : Nat} {xs : List Int} (h : Row w b xs) (e : w'.heap[b]? = w.heap[b]?) (hs : b < w'.heap.size) : Row w' b xs := ⟨hs, range_of h.2.1 e, there_of h.2.2 e⟩
theorem lt_of_same {w w' : World} {b : Nat} (e : w'.heap[b]? = w.heap[b]?) (h : b < w.heap.size) : b < w'.heap.size := by
  rw [Array.getElem?_eq_getElem h] at e
  exact (Array.getElem?_eq_some_iff.1 e).1
theorem Row.of' {w w' : World} {b : Nat} {xs : List Int} (h : Row w b xs) (e : w'.heap[b]? = w.heap[b]?) : Row w' b xs := h.of e (lt_of_same e h.1)
theorem Blk.row {w : World} {b : Nat} {t : TypeId} {xs : List Int} (h : Blk w b t xs) : Row w b xs := ⟨h.lt, h.range0, h.there 0 _ (by omega)⟩
theorem Row.set {w : World} {b : Nat} {xs : List Int} (h : Row w b xs) (i : Nat) (hi : i < xs.length) (x : Int) : Row (w.setCell ⟨b, i, none⟩ (.int .i64 x)) b (xs.set i x) := by
  refine ⟨by simpa using h.1, fun j v hv => ?_, fun j hj => ?_⟩
  · rw [ints_get, List.getElem?_set] at hv
    simp only [Nat.zero_add]
    by_cases e : i = j
    · subst e
      rw [World.cell?_setCell_same _ _ _ (h.cell i hi)]
      simpa [hi] using hv
    · rw [World.cell?_setCell_other _ _ _ _ (by simp <;> omega)]
      rw [if_neg e] at hv
      have := h.2.1 j v (by rw [ints_get]; exact hv)
      simpa using this
  · have hj' : j < xs.length := by simpa using hj
    simp only [Nat.zero_add]
    rw [World.frozen?_setCell]
    refine ⟨?_, h.frozen j hj'⟩
    by_cases e : i = j
    · subst e; rw [World.cell?_setCell_same _ _ _ (h.cell i hi)]; rfl
    · rw [World.cell?_setCell_other _ _ _ _ (by simp <;> omega), h.cell j hj']; rfl

/-- rows that a call made: the outer row in block bo, row i in block B i, all apart -/
def OwnAt (w : World) (lo hi : Nat) (bo : Nat) (B C : Nat → Nat) (R : List (List Int)) : Prop :=
  (R ≠ [] → lo ≤ bo ∧ bo < hi) ∧ hi ≤ w.heap.size ∧ (∀ i j, i < R.length → j < R.length → i ≠ j → B i ≠ B j) ∧
  ∀ i (h : i < R.length), w.cell? ⟨bo, i, none⟩ = some (.slice (some ⟨B i, 0, none⟩) (R[i]).length (C i)) ∧ (R[i]).length ≤ maxLen ∧ lo ≤ B i ∧ B i < hi ∧ B i ≠ bo ∧ Row w (B i) R[i]
def Own (w : World) (lo hi : Nat) (v : Value) (R : List (List Int)) : Prop :=
  R.length ≤ maxLen ∧ ∃ a cap bo B C, v = .slice a R.length cap ∧ (R ≠ [] → a = some ⟨bo, 0, none⟩) ∧ OwnAt w lo hi bo B C R

theorem OwnAt.keep {w w' : World} {lo hi bo : Nat} {B C : Nat → Nat} {R : List (List Int)} (h : OwnAt w lo hi bo B C R) (s : Same lo hi w w') (hs : w.heap.size ≤ w'.heap.size) : OwnAt w' lo hi bo B C R := by
  obtain ⟨h0, h1, h2, h3⟩ := h
  refine ⟨h0, by omega, h2, fun i hi => ?_⟩
  obtain ⟨c1, c2, c3, c4, c5, c6⟩ := h3 i hi
  have hb := h0 (by intro e; subst e; simp at hi)
  exact ⟨by rw [World.cell?_of_block (w := w) (s bo hb.1 hb.2)]; exact c1, c2, c3, c4, c5, c6.of' (s _ c3 c4)⟩
theorem Own.keep {w w' : World} {lo hi : Nat} {v : Value} {R : List (List Int)} (h : Own w lo hi v R) (s : Same lo hi w w') (hs : w.heap.size ≤ w'.heap.size) : Own w' lo hi v R := by
  obtain ⟨hl, a, cap, bo, B, C, e, ha, ho⟩ := h
  exact ⟨hl, a, cap, bo, B, C, e, ha, ho.keep s hs⟩
theorem Own.below {w w' : World} {lo hi B : Nat} {v : Value} {R : List (List Int)} (h : Own w lo hi v R) (hb : Below B w w') (hB : hi ≤ B) : Own w' lo hi v R := h.keep (.of_below hb hB) hb.size
theorem Own.rd {w : World} {lo hi : Nat} {v : Value} {R : List (List Int)} (h : Own w lo hi v R) : Rd w lo hi v R := by
  obtain ⟨hl, a, cap, bo, B, C, rfl, ha, h0, h1, h2, h3⟩ := h
  refine ⟨hl, a, cap, rfl, ?_⟩
  by_cases e : R = []
  · exact .inl e
  · refine .inr ⟨bo, 0, ha e, (h0 e).1, (h0 e).2, fun i hi => ?_⟩
    obtain ⟨c1, c2, c3, c4, c5, c6⟩ := h3 i hi
    refine ⟨_, _, by simpa using c1, c2, ?_⟩
    by_cases e' : R[i] = []
    · exact .inl e'
    · exact .inr ⟨B i, 0, rfl, c3, c4, c6.2.1⟩
theorem Own.wide {w : World} {lo hi lo' hi' : Nat} {v : Value} {R : List (List Int)} (h : Own w lo hi v R) (h1 : lo' ≤ lo) (h2 : hi ≤ hi') (h3 : hi' ≤ w.heap.size) : Own w lo' hi' v R := by
  obtain ⟨hl, a, cap, bo, B, C, e, ha, g0, g1, g2, g3⟩ := h
  refine ⟨hl, a, cap, bo, B, C, e, ha, fun hn => ⟨by have := g0 hn; omega, by have := g0 hn; omega⟩, h3, g2, fun i hi => ?_⟩
  obtain ⟨c1, c2, c3, c4, c5, c6⟩ := g3 i hi
  exact ⟨c1, c2, by omega, by omega, c5, c6⟩
theorem own_nil (w : World) (lo hi : Nat) (hh : hi ≤ w.heap.size) : Own w lo hi (.slice none 0 0) [] :=
  ⟨by simp, none, 0, 0, fun _ => 0, fun _ => 0, rfl, fun h => absurd rfl h, fun h => absurd rfl h, hh, fun i j hi => by simp at hi, fun i hi => by simp at hi⟩

/-- one number of one row is written -/
theorem OwnAt.set {w : World} {lo hi bo : Nat} {B C : Nat → Nat} {R : List (List Int)} (h : OwnAt w lo hi bo B C R) (i : Nat) (hi' : i < R.length) (k : Nat) (hk : k < (R[i]).length) (x : Int) :
    OwnAt (w.setCell ⟨B i, k, none⟩ (.int .i64 x)) lo hi bo B C (R.set i ((R[i]).set k x)) := by
  obtain ⟨h0, h1, h2, h3⟩ := h
  have hne : R ≠ [] := by intro e; subst e; simp at hi'
  refine ⟨fun _ => h0 hne, by simpa using h1, fun a b ha hb => h2 a b (by simpa using ha) (by simpa using hb), fun j hj => ?_⟩
  have hj' : j < R.length := by simpa using hj
  obtain ⟨c1, c2, c3, c4, c5, c6⟩ := h3 j hj'
  obtain ⟨d1, d2, d3, d4, d5, d6⟩ := h3 i hi'
  have hcell : (w.setCell ⟨B i, k, none⟩ (.int .i64 x)).cell? ⟨bo, j, none⟩ = w.cell? ⟨bo, j, none⟩ := World.cell?_setCell_other _ _ _ _ (by simp <;> omega)
  by_cases e : i = j
  · subst e
    simp only [List.getElem_set_self, List.length_set]
    exact ⟨by rw [hcell]; exact c1, c2, c3, c4, c5, c6.set k hk x⟩
  · rw [List.getElem_set_ne e]
    exact ⟨by rw [hcell]; exact c1, c2, c3, c4, c5, c6.of (Below.heap_setCell _ _ _ _ (h2 j i hj' hi' (fun q => e q.symm))) (by simpa using c6.1)⟩
theorem OwnAt.keepOuter {w w' : World} {lo hi bo : Nat} {B C : Nat → Nat} {R : List (List Int)} (h : OwnAt w lo hi bo B C R) (s : ∀ k, lo ≤ k → k < hi → k ≠ bo → w'.heap[k]? = w.heap[k]?)
    (hc : ∀ j, j < R.length → w'.cell? ⟨bo, j, none⟩ = w.cell? ⟨bo, j, none⟩) (hs : w.heap.size ≤ w'.heap.size) : OwnAt w' lo hi bo B C R := by
  obtain ⟨h0, h1, h2, h3⟩ := h
  refine ⟨h0, by omega, h2, fun i hi => ?_⟩
  obtain ⟨c1, c2, c3, c4, c5, c6⟩ := h3 i hi
  exact ⟨by rw [hc i hi]; exact c1, c2, c3, c4, c5, c6.of' (s _ c3 c4 c5)⟩
/-- the outer row moves to another block -/
theorem OwnAt.move {w : World} {lo hi bo : Nat} {B C : Nat → Nat} {R : List (List Int)} (h : OwnAt w lo hi bo B C R) (bo' hi' : Nat) (h1 : lo ≤ bo') (h2 : bo' < hi') (h3 : hi ≤ hi') (h4 : hi' ≤ w.heap.size)
    (hn : ∀ j, j < R.length → B j ≠ bo') (hc : ∀ j (hj : j < R.length), w.cell? ⟨bo', j, none⟩ = some (.slice (some ⟨B j, 0, none⟩) (R[j]).length (C j))) : OwnAt w lo hi' bo' B C R := by
  obtain ⟨g0, g1, g2, g3⟩ := h
  refine ⟨fun _ => ⟨h1, h2⟩, h4, g2, fun i hi => ?_⟩
  obtain ⟨c1, c2, c3, c4, c5, c6⟩ := g3 i hi
  exact ⟨hc i hi, c2, c3, by omega, hn i hi, c6⟩
/-- one row more -/
theorem OwnAt.snoc {w : World} {lo hi hi' bo : Nat} {B C : Nat → Nat} {R : List (List Int)} (h : OwnAt w lo hi bo B C R) (h1 : lo ≤ bo) (h2 : bo < hi') (h3 : hi ≤ hi') (h4 : hi' ≤ w.heap.size)
    (b c : Nat) (xs : List Int) (hb : hi ≤ b) (hlo : lo ≤ b) (hb' : b < hi') (hne : b ≠ bo) (hl : xs.length ≤ maxLen) (hr : Row w b xs) (hcell : w.cell? ⟨bo, R.length, none⟩ = some (.slice (some ⟨b, 0, none⟩) xs.length c)) :
    OwnAt w lo hi' bo (fun j => if j = R.length then b else B j) (fun j => if j = R.length then c else C j) (R ++ [xs]) := by
  obtain ⟨g0, g1, g2, g3⟩ := h
  refine ⟨fun _ => ⟨h1, h2⟩, h4, fun i j hi hj hij => ?_, fun i hi => ?_⟩
  · simp only [List.length_append, List.length_cons, List.length_nil] at hi hj
    by_cases e1 : i = R.length
    · have e2 : j ≠ R.length := fun q => hij (by omega)
      have hB := (g3 j (by omega)).2.2.2.1
      simp only [e1, e2, if_true, if_false]; omega
    · by_cases e2 : j = R.length
      · have hB := (g3 i (by omega)).2.2.2.1
        simp only [e1, e2, if_true, if_false]; omega
      · simp only [e1, e2, if_false]; exact g2 i j (by omega) (by omega) hij
  · by_cases e1 : i = R.length
    · subst e1
      simp only [if_true, List.getElem_concat_length]
      exact ⟨hcell, hl, hlo, hb', hne, hr⟩
    · have hi' : i < R.length := by simp at hi; omega
      obtain ⟨c1, c2, c3, c4, c5, c6⟩ := g3 i hi'
      simp only [e1, if_false, List.getElem_append_left hi']
      exact ⟨c1, c2, c3, by omega, c5, c6⟩
theorem own_none (w : World) (lo hi bo : Nat) (B C : Nat → Nat) (hh : hi ≤ w.heap.size) : OwnAt w lo hi bo B C [] :=
  ⟨fun h => absurd rfl h, hh, fun i j hi => by simp at hi, fun i hi => by simp at hi⟩
theorem OwnAt.congr {w : World} {lo hi bo : Nat} {B C : Nat → Nat} {R R' : List (List Int)} (h : OwnAt w lo hi bo B C R) (e : R = R') : OwnAt w lo hi bo B C R' := e ▸ h

end Go.Proofs.Ytgdoclaifnnpgaa.sk
