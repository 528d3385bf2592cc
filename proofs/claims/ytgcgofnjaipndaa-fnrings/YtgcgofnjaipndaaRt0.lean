/- Mathematics for the laws of rings: what leaves, joins, and where the hand stops. -/
import Derived.Test.YtgcgofnjaipndaaRp6
namespace Go.Proofs.Ytgcgofnjaipndaa.rg
open Go.RowKit
set_option linter.unusedVariables false

theorem cut_sub {α : Type} (N : List α) (i : Nat) : (N.take i ++ N.drop (i + 1)).Sublist N := by
  rw [← List.eraseIdx_eq_take_drop_succ]
  exact List.eraseIdx_sublist ..
theorem left_ok {r : Rg} (h : ROk r) {i : Nat} (hi : i < r.N.length) : ROk (left r i) := by
  have hn : (left r i).N.length + 1 = r.N.length := by simp [left]; omega
  have h0 := h.a0
  have h1 := h.a1
  have h2 := h.le
  refine ⟨fun s hs => h.nm s ((cut_sub r.N i).mem hs), h.nd.sublist (cut_sub r.N i), by omega, left_us h.us i, ?_, ?_⟩
  · show 0 ≤ (if (if (i : Int) < r.A then r.A - 1 else r.A) < (r.N.length : Int) - 1 then (if (i : Int) < r.A then r.A - 1 else r.A) else 0)
    split <;> split <;> omega
  · show (if (if (i : Int) < r.A then r.A - 1 else r.A) < (r.N.length : Int) - 1 then (if (i : Int) < r.A then r.A - 1 else r.A) else 0) < _
    split <;> split <;> omega
theorem left_gone {r : Rg} (h : ROk r) {i : Nat} (hi : i < r.N.length) : r.N[i] ∉ (left r i).N := by
  intro hm
  have hd := List.pairwise_iff_getElem.1 h.nd
  rcases List.mem_append.1 hm with q | q
  · obtain ⟨j, hj, e⟩ := List.mem_iff_getElem.1 q
    simp at hj e
    exact hd j i (by omega) hi (by omega) e
  · obtain ⟨j, hj, e⟩ := List.mem_iff_getElem.1 q
    simp at hj e
    exact hd i (i + 1 + j) hi (by omega) (by omega) e.symm
theorem left_hand {r : Rg} (h : ROk r) {i k : Nat} (hi : i < r.N.length) (hk : r.A = k) (hne : k ≠ i) : ∃ k' : Nat, (left r i).A = k' ∧ k' < (left r i).N.length ∧ (left r i).N[k']? = r.N[k]? := by
  have h1 := h.a1
  have hn : (left r i).N.length + 1 = r.N.length := by simp [left]; omega
  rcases Nat.lt_or_ge i k with q | q
  · refine ⟨k - 1, ?_, by omega, ?_⟩
    · show (if (if (i : Int) < r.A then r.A - 1 else r.A) < (r.N.length : Int) - 1 then (if (i : Int) < r.A then r.A - 1 else r.A) else 0) = _
      rw [if_pos (show (i : Int) < r.A by omega), if_pos (by omega)]
      omega
    · show (r.N.take i ++ r.N.drop (i + 1))[k - 1]? = _
      rw [List.getElem?_append_right (by simp; omega), List.getElem?_drop]
      congr 1
      simp
      omega
  · refine ⟨k, ?_, by omega, ?_⟩
    · show (if (if (i : Int) < r.A then r.A - 1 else r.A) < (r.N.length : Int) - 1 then (if (i : Int) < r.A then r.A - 1 else r.A) else 0) = _
      rw [if_neg (show ¬ (i : Int) < r.A by omega), if_pos (by omega)]
      omega
    · show (r.N.take i ++ r.N.drop (i + 1))[k]? = _
      rw [List.getElem?_append_left (by simp; omega), List.getElem?_take, if_pos (by omega)]
theorem joined_ok {r : Rg} (h : ROk r) {s : ByteArray} (hm : mayB r s = true) : ROk (joined r s) := by
  simp only [mayB, Bool.and_eq_true, decide_eq_true_eq, Bool.not_eq_true', beq_eq_false_iff_ne] at hm
  obtain ⟨⟨h1, h2⟩, h3⟩ := hm
  have hno : s ∉ r.N := fun q => by have := posS_mem.1 q; omega
  have h4 := h.le
  have h5 := h.us
  have h6 := h.a0
  have h7 := h.a1
  refine ⟨fun x hx => ?_, ?_, ?_, ?_, h6, ?_⟩
  · rcases List.mem_append.1 hx with q | q
    · exact h.nm x q
    · rw [List.mem_singleton.1 q]; exact h1
  · show (r.N ++ [s]).Nodup
    rw [List.nodup_append]
    refine ⟨h.nd, by simp, fun a ha b hb e => ?_⟩
    rw [List.mem_singleton] at hb
    rw [e, hb] at ha
    exact hno ha
  · show (r.N ++ [s]).length ≤ 20
    simp
    omega
  · show (r.U ++ [false]).length = (r.N ++ [s]).length
    simp
    omega
  · show r.A < max ((r.N ++ [s]).length : Int) 1
    simp
    omega

theorem mod2 {n x : Nat} (h : x < 2 * n) : x % n = if x < n then x else x - n := by
  split
  · exact Nat.mod_eq_of_lt (by assumption)
  · rw [Nat.mod_eq_sub_mod (by omega), Nat.mod_eq_of_lt (by omega)]
theorem mod_reach {n a j : Nat} (ha : a < n) (hj : j < n) : ∃ m, m < n ∧ (a + m) % n = j := by
  rcases Nat.lt_or_ge j a with q | q
  · exact ⟨j + n - a, by omega, by rw [mod2 (by omega), if_neg (by omega)]; omega⟩
  · exact ⟨j - a, by omega, by rw [mod2 (by omega), if_pos (by omega)]; omega⟩
theorem mod_once {n a m k : Nat} (ha : a < n) (hm : m < k) (hk : k ≤ n) (e : (a + m) % n = (a + k) % n) : k = n := by
  rw [mod2 (by omega), mod2 (by omega)] at e
  split at e <;> split at e <;> omega
/-- the hand has gone by k places -/
structure Gone (n : Nat) (U0 : List Bool) (a k : Nat) (U : List Bool) : Prop where
  le : k ≤ n
  by' : ∀ m, m < k → U0[(a + m) % n]? = some true
  iff : ∀ j, U[j]? = some true ↔ U0[j]? = some true ∧ ∀ m, m < k → (a + m) % n ≠ j
theorem turn_gone {n : Nat} {U0 : List Bool} {a : Nat} (ha : a < n) : ∀ (f : Nat) (U : List Bool) (k : Nat), f = U.count true → Gone n U0 a k U → ∃ k', Gone n U0 a k' (turn n f U ((a + k) % n)).1 ∧ (turn n f U ((a + k) % n)).2 = (a + k') % n ∧ (turn n f U ((a + k) % n)).1[(a + k') % n]? ≠ some true
  | 0, U, k, hf, g => by
    refine ⟨k, g, rfl, fun e => ?_⟩
    have := List.mem_of_getElem? e
    exact List.count_eq_zero.1 hf.symm this
  | f + 1, U, k, hf, g => by
    by_cases h : U[(a + k) % n]? = some true
    · have hk : k < n := by
        rcases Nat.lt_or_ge k n with q | q
        · exact q
        · exfalso
          have e : k = n := by have := g.le; omega
          subst e
          exact ((g.iff _).1 h).2 0 (by omega) (by simp)
      have g2 : Gone n U0 a (k + 1) (U.set ((a + k) % n) false) := by
        refine ⟨by omega, fun m hm => ?_, fun j => ?_⟩
        · rcases Nat.lt_or_ge m k with q | q
          · exact g.by' m q
          · have e : m = k := by omega
            subst e
            exact ((g.iff _).1 h).1
        · rw [List.getElem?_set]
          by_cases q : (a + k) % n = j
          · rw [if_pos q]
            refine ⟨fun z => ?_, fun z => absurd q (z.2 k (by omega))⟩
            split at z <;> cases z
          · rw [if_neg q, g.iff j]
            refine ⟨fun z => ⟨z.1, fun m hm => ?_⟩, fun z => ⟨z.1, fun m hm => z.2 m (by omega)⟩⟩
            rcases Nat.lt_or_ge m k with p | p
            · exact z.2 m p
            · have e : m = k := by omega
              subst e
              exact q
      have hc := count_set h
      obtain ⟨k', r1, r2, r3⟩ := turn_gone ha f (U.set ((a + k) % n) false) (k + 1) (by omega) g2
      have e : turn n (f + 1) U ((a + k) % n) = turn n f (U.set ((a + k) % n) false) ((a + (k + 1)) % n) := by
        simp only [turn, if_pos h]
        rw [Nat.mod_add_mod, Nat.add_assoc]
      rw [e]
      exact ⟨k', r1, r2, r3⟩
    · rw [turn_stop h]
      exact ⟨k, g, rfl, h⟩
/-- where the hand stops -/
structure Stop (r : Rg) (V : List Bool) (b : Nat) : Prop where
  lt : b < r.N.length
  len : V.length = r.N.length
  off : V[b]? = some false
  le : ∀ j : Nat, V[j]? = some true → r.U[j]? = some true
  all : r.U[b]? = some true → ∀ j : Nat, j < r.N.length → r.U[j]? = some true
  at' : r.U[b]? = some true → (b : Int) = r.A
theorem turned_stop {r : Rg} (h : ROk r) (hn : r.N.length ≠ 0) : Stop r (turned r).1 (turned r).2 := by
  have h0 := h.a0
  have h1 := h.a1
  have ha : r.A.toNat < r.N.length := by omega
  obtain ⟨k, g, e, ho⟩ := turn_gone (U0 := r.U) ha (r.U.count true) r.U 0 rfl ⟨Nat.zero_le _, fun m hm => by omega, fun j => ⟨fun z => ⟨z, fun m hm => by omega⟩, fun z => z.1⟩⟩
  rw [Nat.add_zero, Nat.mod_eq_of_lt ha] at g e ho
  have hl : (turned r).1.length = r.N.length := by rw [← h.us]; exact turn_len _ _ _ _
  have hb : (turned r).2 < r.N.length := by
    show (turn _ _ _ _).2 < _
    rw [e]
    exact Nat.mod_lt _ (by omega)
  have full : r.U[(turned r).2]? = some true → k = r.N.length := fun z => by
    have z' : r.U[(r.A.toNat + k) % r.N.length]? = some true := by rw [← e]; exact z
    by_cases q : ∃ m, m < k ∧ (r.A.toNat + m) % r.N.length = (r.A.toNat + k) % r.N.length
    · obtain ⟨m, hm, em⟩ := q
      exact mod_once ha hm g.le em
    · exact absurd ((g.iff _).2 ⟨z', fun m hm em => q ⟨m, hm, em⟩⟩) ho
  refine ⟨hb, hl, ?_, fun j hj => ((g.iff j).1 hj).1, fun z j hj => ?_, fun z => ?_⟩
  · have ho' : (turned r).1[(turned r).2]? ≠ some true := by
      show (turn _ _ _ _).1[(turn _ _ _ _).2]? ≠ _
      rw [e]
      exact ho
    rw [List.getElem?_eq_getElem (by omega)] at ho' ⊢
    cases hx : (turned r).1[(turned r).2]'(by omega) with
    | false => rfl
    | true => rw [hx] at ho'; exact absurd rfl ho'
  · have hk := full z
    obtain ⟨m, hm, em⟩ := mod_reach ha hj
    have := g.by' m (by omega)
    rw [em] at this
    exact this
  · have hk := full z
    have e2 : (turned r).2 = (r.A.toNat + k) % r.N.length := e
    rw [e2, hk, mod2 (by omega), if_neg (by omega)]
    omega
theorem turned_ok {r : Rg} (h : ROk r) {V : List Bool} {b : Nat} (s : Stop r V b) : ROk ⟨r.N, V, (b : Int)⟩ := ⟨h.nm, h.nd, h.le, s.len, by show (0 : Int) ≤ (b : Int); omega, by show (b : Int) < max (r.N.length : Int) 1; have := s.lt; omega⟩
theorem all_end {r : Rg} (h : ROk r) {V : List Bool} {b : Nat} (s : Stop r V b) {u : Bool} (hu : r.U[b]? = some u) : r.U.all id = u := by
  cases u with
  | true =>
    rw [List.all_eq_true]
    intro x hx
    obtain ⟨j, hj, e⟩ := List.mem_iff_getElem.1 hx
    have := s.all hu j (by have := h.us; omega)
    rw [List.getElem?_eq_getElem hj, e] at this
    cases this
    rfl
  | false =>
    rw [Bool.eq_false_iff]
    intro q
    rw [List.all_eq_true] at q
    have := q false (List.mem_of_getElem? hu)
    cases this
theorem all_next {U : List Bool} {i : Nat} (hi : i < U.length) : (U.take (i + 1)).all id = ((U.take i).all id && U[i]) := by
  rw [List.take_succ_eq_append_getElem hi, List.all_append]
  simp
end Go.Proofs.Ytgcgofnjaipndaa.rg
