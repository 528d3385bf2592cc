/- A row that is filled from its head on, of whatever things: made, stored into, full. -/
import Derived.Test.YtmnjmghlkiljhaaRo1
namespace Go.Proofs.Ytmnjmghlkiljhaa.ro
open Go.ChangeShapes Go.WideShapes Go.ChangeAt Go.RowKit
open Go.Proofs.Ytmnjmghlkiljhaa.ce
set_option linter.unusedVariables false
variable {α : Type}

structure Part (E : Enc α) (w : World) (lo g n cap : Nat) (G : List α) : Prop where
  own : ∃ X, w.ownsRow lo E.t E.k (.slice (some ⟨g, 0, none⟩) n cap) n X ∧ X.take (G.length * E.k) = E.row G
theorem Part.keep {E : Enc α} {w w' : World} {lo g n cap : Nat} {G : List α} (p : Part E w lo g n cap G) (e : w'.heap[g]? = w.heap[g]?) : Part E w' lo g n cap G := by
  obtain ⟨X, hX, ht⟩ := p.own
  refine ⟨X, ⟨hX.1, ?_⟩, ht⟩
  rcases hX.2 with h | ⟨g', cap', cur, e', hg, hb, h⟩
  · exact .inl h
  · cases e'
    exact .inr ⟨g, cap, cur, rfl, hg, by rw [e]; exact hb, h⟩
theorem Part.lt {E : Enc α} {w : World} {lo g n cap : Nat} {G : List α} (p : Part E w lo g n cap G) : lo ≤ g ∧ g < w.heap.size := by
  obtain ⟨X, hX, ht⟩ := p.own
  exact hX.lt g rfl
theorem Part.full {E : Enc α} {w : World} {lo g n cap : Nat} {G : List α} (p : Part E w lo g n cap G) (hn : G.length = n) : Own E w lo w.heap.size (.slice (some ⟨g, 0, none⟩) n cap) G := by
  subst hn
  obtain ⟨X, hX, ht⟩ := p.own
  rw [List.take_of_length_le (by rw [hX.1]; exact Nat.le_refl _)] at ht
  subst ht
  exact own_of hX
section
variable {ops : Array Oper} {rest : List Oper} {o : Oper} {a : Act} {w : World} {Q : Exit → Act → World → Prop}
theorem wpList_make_p {E : Enc α} (I : Info E) (hgd : o.guard = none) (l c : Operand) (t : TypeId) (ho : o.op = .makeSlice t l c) (ht : Try.prog.underlying t = some (.slice E.t)) (n : Nat) (hn : n ≤ 1048576) (hl : a.eval l = .int .i64 n) (hc : a.eval c = .int .i64 n)
    (h : ∀ b w', w.heap.size ≤ b → b < w'.heap.size → Below w.heap.size w w' → Part E w' w.heap.size b n n [] → wpList Try.prog ops Q rest (a.put o.dst (.slice (some ⟨b, 0, none⟩) n n)) w') : wpList Try.prog ops Q (o :: rest) a w := by
  obtain ⟨i0, z, hi0, hz0, hz1, hz2, hz3⟩ := I.ex
  refine wpList_make_full _ hgd l c t ho w.heap.size E.t i0 z E.k ht hi0 hz0 hz1 .i64 .i64 n n n hl hc rfl rfl (by have := Nat.mul_le_mul hz2 hn; omega) (by unfold maxLen; omega) (Nat.le_refl _) ?_
  intro w1 h1 h2
  have hb : Below w.heap.size w w1 := below_grown h2 (Nat.le_refl _) (fun k hk => by cases hk)
  exact h _ w1 (Nat.le_refl _) (h1.lt _ rfl).2 hb ⟨_, h1, by simp [Enc.row]⟩
theorem wpList_store_p {E : Enc α} (hsz : (Try.prog.info? E.t).map (·.size) = some E.k) (hgd : o.guard = none) (x y : Operand) (ho : o.op = .store E.t x y) (lo g n cap i j0 : Nat) (G : List α) (c : α) (hx : a.eval x = .pointer (some ⟨g, j0, none⟩)) (hj0 : j0 = i * E.k) (hy : a.eval y = .agg (E.put c).toArray)
    (hp : Part E w lo g n cap G) (hi : G.length = i) (hlt : i < n) (h : ∀ w', Only g w w' → Part E w' lo g n cap (G ++ [c]) → wpList Try.prog ops Q rest (a.put o.dst undef) w') : wpList Try.prog ops Q (o :: rest) a w := by
  subst hi
  subst hj0
  obtain ⟨X, hX, ht⟩ := hp.own
  have h4 : (E.put c).length = E.k := E.len c
  have hm : (G.length + 1) * E.k = G.length * E.k + E.k := by rw [Nat.add_mul]; omega
  have hm2 : (G.length + 1) * E.k ≤ n * E.k := Nat.mul_le_mul_right _ (by omega)
  rcases hX.2 with ⟨h', _⟩ | ⟨g', cap', cur, h', hg, hb, hc1, hc2, hc3, htk⟩
  · simp at h'
  · cases h'
    have hm3 : n * E.k ≤ cap * E.k := Nat.mul_le_mul_right _ hc1
    have hcs : cur.toList.length = cur.size := Array.length_toList
    refine wpList_store_mid hgd E.t x y ho g (G.length * E.k) (E.put c).toArray hx hy (fun j hj => ⟨?_, frozen_of_row _ _ _ _ _ hb⟩) (by rw [hsz, List.size_toArray, h4]) (all_oneCell_toArray (E.one c)) (h _ (only_setCells _ _ _ _) ⟨(cur.toList.take (G.length * E.k) ++ E.put c ++ cur.toList.drop (G.length * E.k + E.k)).take (n * E.k), ⟨?_, .inr ⟨g, cap, (cur.toList.take (G.length * E.k) ++ E.put c ++ cur.toList.drop (G.length * E.k + E.k)).toArray, rfl, hg, ?_, hc1, hc2, ?_, rfl⟩⟩, ?_⟩)
    · rw [cell_of_row _ _ _ _ _ _ hb]
      have hj' : j < E.k := by rw [List.size_toArray, h4] at hj; exact hj
      simp; omega
    · simp only [List.length_take, List.length_append, List.length_drop, h4]; omega
    · have := heap_setCells g E.t (E.put c) (G.length * E.k) w cur.toList (by simpa using hb) (by omega)
      rw [h4] at this
      exact this
    · simp only [List.size_toArray, List.length_take, List.length_append, List.length_drop, h4]; omega
    · rw [E.row_append, ← ht, ← htk, List.take_take, List.take_take, List.length_append, List.length_singleton, show min ((G.length + 1) * E.k) (n * E.k) = G.length * E.k + E.k by omega, show min (G.length * E.k) (n * E.k) = G.length * E.k by omega, List.append_assoc, List.take_append, List.take_append]
      have hl : (cur.toList.take (G.length * E.k)).length = G.length * E.k := by simp; omega
      rw [hl, h4, show G.length * E.k + E.k - G.length * E.k = E.k by omega, List.take_of_length_le (l := cur.toList.take (G.length * E.k)) (by omega), List.take_of_length_le (l := E.put c) (by omega), E.row_one']
      simp
end
end Go.Proofs.Ytmnjmghlkiljhaa.ro
