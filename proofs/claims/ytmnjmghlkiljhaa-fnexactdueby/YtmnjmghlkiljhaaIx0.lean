/- Mathematics of things and books of things, no Go in sight. -/
import Derived.Test.YtmnjmghlkiljhaaRx0
namespace Go.Proofs.Ytmnjmghlkiljhaa.rg
open Go.RowKit
set_option linter.unusedVariables false

/-! ### texts in their order -/
theorem less_irrefl : ∀ x : List UInt8, Op.bytesLess x x = false
  | [] => rfl
  | a :: x => by
    have := less_irrefl x
    simp [Op.bytesLess, this]
theorem less_trans : ∀ x y z : List UInt8, Op.bytesLess x y = true → Op.bytesLess y z = true → Op.bytesLess x z = true
  | [], [], z, h, _ => by simp [Op.bytesLess] at h
  | a :: x, [], z, h, _ => by simp [Op.bytesLess] at h
  | x, b :: y, [], _, h => by simp [Op.bytesLess] at h
  | [], b :: y, c :: z, _, _ => by simp [Op.bytesLess]
  | a :: x, b :: y, c :: z, h1, h2 => by
    simp only [Op.bytesLess, Bool.or_eq_true, Bool.and_eq_true, decide_eq_true_eq, beq_iff_eq] at h1 h2 ⊢
    rcases h1 with h1 | ⟨rfl, h1⟩
    · rcases h2 with h2 | ⟨rfl, h2⟩
      · exact .inl (UInt8.lt_trans h1 h2)
      · exact .inl h1
    · rcases h2 with h2 | ⟨rfl, h2⟩
      · exact .inl h2
      · exact .inr ⟨rfl, less_trans x y z h1 h2⟩
/-- one text stands ahead of another -/
def ltS (a b : ByteArray) : Bool := Op.bytesLess a.toList b.toList
theorem ltS_irrefl (a : ByteArray) : ltS a a = false := less_irrefl _
theorem ltS_trans {a b c : ByteArray} (h : ltS a b = true) (k : ltS b c = true) : ltS a c = true := less_trans _ _ _ h k
theorem ltS_ne {a b : ByteArray} (h : ltS a b = true) : a ≠ b := fun e => by rw [e, ltS_irrefl] at h; cases h

/-- a thing -/
structure It where
  N : ByteArray
  F : Int
  B : ByteArray
  C : Int
  U : Int
def It.zero : It := ⟨⟨#[]⟩, 0, ⟨#[]⟩, 0, 0⟩
def itemB (i : It) : Bool := nameB i.N && (decide (0 ≤ i.F) && decide (i.F ≤ 65535)) && decide ((i.B.size : Int) ≤ 64) && (decide (1 ≤ i.C) && decide (i.C ≤ 1000000)) && (decide (0 ≤ i.U) && decide (i.U ≤ 1000000))
structure IOk (i : It) : Prop where
  nm : nameB i.N = true
  f0 : 0 ≤ i.F
  f1 : i.F ≤ 65535
  b1 : i.B.size ≤ 64
  c0 : 1 ≤ i.C
  c1 : i.C ≤ 1000000
  u0 : 0 ≤ i.U
  u1 : i.U ≤ 1000000
theorem itemB_iff {i : It} : itemB i = true ↔ IOk i := by
  simp only [itemB, Bool.and_eq_true, decide_eq_true_eq]
  exact ⟨fun ⟨⟨⟨⟨h1, h2, h3⟩, h4⟩, h5, h6⟩, h7, h8⟩ => ⟨h1, h2, h3, by omega, h5, h6, h7, h8⟩, fun ⟨h1, h2, h3, h4, h5, h6, h7, h8⟩ => ⟨⟨⟨⟨h1, h2, h3⟩, by omega⟩, h5, h6⟩, h7, h8⟩⟩
def wt (i : It) : Nat := i.N.size + i.B.size + 8
theorem wt_le {i : It} (h : IOk i) : wt i ≤ 84 := by have := (nameB_size h.nm).2; have := h.b1; unfold wt; omega
def wtI (i : It) : Int := if itemB i = true then (wt i : Int) else -1
def overB (i : It) (now : Int) : Bool := !(i.U == 0) && decide (i.U ≤ now)

/-- things in the order of their names, at most twenty -/
def BOk (b : List It) : Prop := (∀ i ∈ b, itemB i = true) ∧ (b.map (·.N)).Pairwise (fun x y => ltS x y = true) ∧ b.length ≤ 20
instance (b : List It) : Decidable (BOk b) := by unfold BOk; exact inferInstance
def bookB (b : List It) : Bool := decide (BOk b)
theorem bookB_iff {b : List It} : bookB b = true ↔ BOk b := by unfold bookB; exact decide_eq_true_iff
theorem BOk.nodup {b : List It} (h : BOk b) : (b.map (·.N)).Nodup := h.2.1.imp fun q => ltS_ne q
/-- the first k of them are right things in their order -/
def PreB (b : List It) (k : Nat) : Prop := (∀ i ∈ b.take k, itemB i = true) ∧ ((b.take k).map (·.N)).Pairwise (fun x y => ltS x y = true)
theorem preB_zero (b : List It) : PreB b 0 := ⟨by simp, by simp⟩
theorem preB_succ {b : List It} {k : Nat} (h : PreB b k) (hk : k < b.length) (h1 : itemB b[k] = true) (h2 : ∀ h0 : 0 < k, ltS (b[k - 1]'(by omega)).N b[k].N = true) : PreB b (k + 1) := by
  unfold PreB
  rw [List.take_succ_eq_append_getElem hk]
  refine ⟨fun i hi => ?_, ?_⟩
  · rcases List.mem_append.1 hi with q | q
    · exact h.1 i q
    · rw [List.mem_singleton.1 q]; exact h1
  · rw [List.map_append, List.pairwise_append]
    refine ⟨h.2, by simp, fun x hx y hy => ?_⟩
    simp only [List.map_cons, List.map_nil, List.mem_singleton] at hy
    rw [hy]
    have h0 : 0 < k := by
      cases k with
      | zero => simp at hx
      | succ k => omega
    have hl := h2 h0
    obtain ⟨j, hj, e⟩ := List.mem_iff_getElem.1 hx
    simp only [List.length_map, List.length_take, List.getElem_map, List.getElem_take] at hj e
    by_cases hjk : j = k - 1
    · subst hjk
      rw [← e]
      exact hl
    · refine ltS_trans ?_ hl
      have := List.pairwise_iff_getElem.1 h.2 j (k - 1) (by simp; omega) (by simp; omega) (by omega)
      simp only [List.getElem_map, List.getElem_take] at this
      rw [← e]
      exact this
theorem preB_not1 {b : List It} {k : Nat} (hk : k < b.length) (h : itemB b[k] = false) : bookB b = false := by
  unfold bookB
  refine decide_eq_false fun q => ?_
  have := q.1 b[k] (List.getElem_mem hk)
  rw [h] at this
  cases this
theorem preB_not2 {b : List It} {k : Nat} (hk : k < b.length) (h0 : 0 < k) (h : ltS (b[k - 1]'(by omega)).N b[k].N = false) : bookB b = false := by
  unfold bookB
  refine decide_eq_false fun q => ?_
  have := List.pairwise_iff_getElem.1 q.2.1 (k - 1) k (by simp; omega) (by simp; omega) (by omega)
  simp only [List.getElem_map] at this
  rw [h] at this
  cases this
theorem preB_all {b : List It} (h : PreB b b.length) : bookB b = decide ((b.length : Int) ≤ 20) := by
  unfold PreB at h
  rw [List.take_length] at h
  unfold bookB
  by_cases q : b.length ≤ 20
  · rw [decide_eq_true (show BOk b from ⟨h.1, h.2, q⟩), decide_eq_true (by omega)]
  · rw [decide_eq_false (show ¬ BOk b from fun z => q z.2.2), decide_eq_false (by omega)]
theorem book_long {b : List It} (h : 20 < b.length) : bookB b = false := decide_eq_false fun z => by have := z.2.2; omega
/-- the place of a name in a book -/
def findI (b : List It) (s : ByteArray) : Int := posS s (b.map (·.N))
theorem findI_self {b : List It} (h : BOk b) {k : Nat} (hk : k < b.length) : findI b b[k].N = k := by
  unfold findI
  have hk' : k < (b.map (·.N)).length := by rw [List.length_map]; exact hk
  have e : (b.map (·.N))[k] = b[k].N := by rw [List.getElem_map]
  refine posS_at hk' e fun hm => ?_
  obtain ⟨j, hj, e2⟩ := List.mem_iff_getElem.1 hm
  simp at hj e2
  have := List.pairwise_iff_getElem.1 h.nodup j k (by simp; omega) hk' (by omega)
  simp only [List.getElem_map] at this
  exact this e2
theorem findI_at {b : List It} {s : ByteArray} (h : 0 ≤ findI b s) : ∃ k : Nat, ∃ hk : k < b.length, findI b s = k ∧ b[k].N = s := by
  unfold findI at h ⊢
  rcases posS_cases s (b.map (·.N)) with ⟨-, e⟩ | ⟨k, hk, e, -, e2⟩
  · omega
  · rw [List.length_map] at hk
    rw [List.getElem_map] at e
    exact ⟨k, hk, e2, e⟩
/-- how heavy -/
def sumW (b : List It) : Nat := (b.map wt).sum
def heavyI (b : List It) : Int := if bookB b = true then (sumW b : Int) else -1
theorem sumW_next {b : List It} {k : Nat} (hk : k < b.length) : sumW (b.take (k + 1)) = sumW (b.take k) + wt b[k] := by
  unfold sumW
  rw [List.take_succ_eq_append_getElem hk, List.map_append, List.sum_append]
  rfl
theorem sumW_le {b : List It} (h : ∀ i ∈ b, itemB i = true) : sumW b ≤ b.length * 84 := by
  induction b with
  | nil => simp [sumW]
  | cons i r ih =>
    have h1 := wt_le (itemB_iff.1 (h i (List.mem_cons_self ..)))
    have h2 := ih fun j hj => h j (List.mem_cons_of_mem _ hj)
    unfold sumW at h2 ⊢
    simp only [List.map_cons, List.sum_cons, List.length_cons, Nat.add_mul]
    omega
theorem sumW_small {b : List It} (h : BOk b) (k : Nat) : sumW (b.take k) ≤ 1680 := by
  have h1 := sumW_le (b := b.take k) fun i hi => h.1 i (List.mem_of_mem_take hi)
  rw [List.length_take] at h1
  have := h.2.2
  have : min k b.length * 84 ≤ 20 * 84 := Nat.mul_le_mul_right _ (by omega)
  omega
theorem wtI_yes {i : It} (h : itemB i = true) : wtI i = wt i := if_pos h
end Go.Proofs.Ytmnjmghlkiljhaa.rg
