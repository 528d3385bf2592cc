/- What is swapped or struck is a heap still. -/
import Derived.Test.YtnjeepmbkogaeaaCe7
namespace Go.Proofs.Ytnjeepmbkogaeaa.ce
open Go.ChangeShapes Go.WideShapes Go.ChangeAt Go.RowKit
set_option linter.unusedVariables false

theorem fresh_two (H : List C) (key value next : Int) : (freshN H key value next = -1) ∨ (freshN H key value next = (H.length : Int) ∧ freshH H key value next = H ++ [cell key value next] ∧ heapOk (H ++ [cell key value next])) := by
  by_cases h : heapOk H
  · by_cases h2 : freshOk H key value next
    · exact .inr ⟨by unfold freshN; rw [if_pos h, if_pos h2], by unfold freshH; rw [if_pos h, if_pos h2], h2⟩
    · exact .inl (by unfold freshN; rw [if_pos h, if_neg h2])
  · exact .inl (by unfold freshN; rw [if_neg h])

theorem nth_set_key (H : List C) (i : Nat) (hi : i < H.length) (c : C) (hk : c.key = (H[i]).key) (n : Int) : (nth (H.set i c) n).key = (nth H n).key := by
  unfold nth
  rw [List.getD_eq_getElem?_getD, List.getD_eq_getElem?_getD, List.getElem?_set]
  by_cases e : i = n.toNat
  · rw [if_pos e, if_pos hi, ← e, List.getElem?_eq_getElem hi]
    exact hk
  · rw [if_neg e]
theorem leads_set (H : List C) (i : Nat) (hi : i < H.length) (c : C) (hk : c.key = (H[i]).key) (k n : Int) : leads (H.set i c) k n ↔ leads H k n := by
  unfold leads has
  rw [List.length_set, nth_set_key H i hi c hk]
theorem heapOk_cells {H : List C} (h : heapOk H) (j : Nat) (hj : j < H.length) : cellOk H j H[j] := Decidable.byContradiction (dec := Classical.propDecidable _) fun hb => sp_bad H j hj hb h
theorem heapOk_set {H : List C} (h : heapOk H) (i : Nat) (hi : i < H.length) (c : C) (hk : c.key = (H[i]).key) (hg : i = 0 → c.gone = false) (hl : leads H c.key c.next) : heapOk (H.set i c) := by
  have h1 := h.1
  have e0 := nth_nat H 0 h1.1
  have e1 := nth_nat (H.set i c) 0 (by rw [List.length_set]; exact h1.1)
  simp only [Int.natCast_zero] at e0 e1
  refine sp_ok _ (by rw [List.length_set]; exact h1.2) (by rw [List.length_set]; exact h1.1) ?_ ?_ fun j hj => ?_
  · rw [nth_set_key H i hi c hk]; exact h.2.1.1
  · rw [e1]
    by_cases e : i = 0
    · subst e; rw [List.getElem_set_self]; exact hg rfl
    · rw [List.getElem_set_ne e, ← e0]; exact h.2.1.2.1
  · have hj' : j < H.length := by simpa using hj
    by_cases e : i = j
    · subst e
      rw [List.getElem_set_self]
      exact ⟨by rw [hk]; exact (heapOk_cells h i hi).1, (leads_set H i hi c hk _ _).2 hl⟩
    · rw [List.getElem_set_ne e]
      exact ⟨(heapOk_cells h j hj').1, (leads_set H i hi c hk _ _).2 (heapOk_cells h j hj').2⟩
theorem heapOk_swap {H : List C} (h : heapOk H) (i : Nat) (hi : i < H.length) (n z : Int) (hs : swapOk H i n z) : heapOk (swapH H i z) := by
  unfold swapH
  have e := nth_nat H i hi
  refine heapOk_set h _ (by simpa using hi) _ (by rw [e]; simp) (fun hz => ?_) (by show leads H (nth H i).key z; exact hs.2)
  exact hs.1.2.1
theorem heapOk_strike {H : List C} (h : heapOk H) (i : Nat) (hi : i < H.length) (n : Int) (hs : strikeOk H i n) : heapOk (strikeH H i) := by
  unfold strikeH
  have e := nth_nat H i hi
  refine heapOk_set h _ (by simpa using hi) _ (by rw [e]; simp) (fun hz => ?_) ?_
  · have := hs.1
    simp at hz
    omega
  · show leads H (nth H i).key (nth H i).next
    rw [e]
    exact (heapOk_cells h i hi).2
theorem struck_facts {G Y : List C} (hok : heapOk G) (i : Nat) (hi : i < G.length) (n : Int) (hs : strikeOk G i n) (eY : strikeH G i = Y) :
    Hid (decide (heapOk Y) = true) ∧ Hid (Y.length = G.length) ∧ i < Y.length ∧ Hid (∀ h : i < Y.length, (Y[i]).gone = true ∧ (Y[i]).next = n) ∧ Hid ((G[i]).gone = false) := by
  have en := nth_nat G i hi
  have h1 := hs.2.2.1
  have h2 := hs.2.2.2
  rw [en] at h1 h2
  have hY := heapOk_strike hok i hi n hs
  subst eY
  refine ⟨decide_eq_true hY, strikeH_len _ _, by rw [strikeH_len]; exact hi, fun h => ?_, h1⟩
  have e : (strikeH G i)[i] = { nth G i with gone := true } := by simp [strikeH]
  rw [e, en]
  exact ⟨rfl, h2⟩
theorem swap_facts {H X : List C} (hok : heapOk H) (i : Nat) (hi : i < H.length) (n z : Int) (hs : swapOk H i n z) (eX : swapH H i z = X) :
    Hid (decide (heapOk X) = true) ∧ Hid (X.length = H.length) ∧ i < X.length ∧ Hid (∀ h : i < X.length, (X[i]).next = z) ∧ Hid ((H[i]).gone = false ∧ (H[i]).next = n) ∧ Hid (∀ j (h1 : j < X.length) (h2 : j < H.length), j ≠ i → X[j] = H[j]) := by
  have en := nth_nat H i hi
  have h1 := hs.1.2.1
  have h2 := hs.1.2.2
  rw [en] at h1 h2
  have hX := heapOk_swap hok i hi n z hs
  subst eX
  refine ⟨decide_eq_true hX, swapH_len _ _ _, by rw [swapH_len]; exact hi, fun h => ?_, ⟨h1, h2⟩, fun j h3 h4 hj => ?_⟩
  · have e : (swapH H i z)[i] = { nth H i with next := z } := by simp [swapH]
    rw [e]
  · simp only [swapH, Int.toNat_natCast]
    rw [List.getElem_set_ne (fun e => hj e.symm)]
end Go.Proofs.Ytnjeepmbkogaeaa.ce
