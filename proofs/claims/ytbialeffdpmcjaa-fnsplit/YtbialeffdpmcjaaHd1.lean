/- A hand in memory, and the model's two functions that end its step or begin anew. -/
import Derived.Test.YtbialeffdpmcjaaCe7
namespace Go.Proofs.Ytbialeffdpmcjaa.ce
open Go.ChangeShapes Go.WideShapes Go.ChangeAt Go.RowKit
set_option linter.unusedVariables false

structure Hd where
  kind : Int
  key : Int
  value : Int
  step : Int
  left : Int
  here : Int
  own : Int
  told : Int
def hv (d : Hd) : List Value := [.int .i64 d.kind, .int .i64 d.key, .int .i64 d.value, .int .i64 d.step, .int .i64 d.left, .int .i64 d.here, .int .i64 d.own, .int .i64 d.told]
theorem only_set (w : World) (b j : Nat) (u : Value) : Only b w (w.setCell ⟨b, j, none⟩ u) := ⟨by simp, fun k hk => Below.heap_setCell _ _ _ _ hk, fun B hB => (Below.refl _ _).setCell hB _⟩
theorem Only.trans {b : Nat} {x y z : World} (h : Only b x y) (k : Only b y z) : Only b x z := ⟨k.1.trans h.1, fun j hj => (k.2.1 j hj).trans (h.2.1 j hj), fun B hB => (h.2.2 B hB).trans (k.2.2 B hB)⟩
/-- of the blocks under lo only q may be turned -/
structure Mv (lo q : Nat) (w w' : World) : Prop where
  os : w'.os = w.os
  tape : w'.tape = w.tape
  output : w'.output = w.output
  size : w.heap.size ≤ w'.heap.size
  block : ∀ k, k < lo → k ≠ q → w'.heap[k]? = w.heap[k]?
theorem Mv.refl (lo q : Nat) (w : World) : Mv lo q w w := ⟨rfl, rfl, rfl, Nat.le_refl _, fun _ _ _ => rfl⟩
theorem Mv.trans {lo q : Nat} {a b c : World} (h : Mv lo q a b) (k : Mv lo q b c) : Mv lo q a c := ⟨k.os.trans h.os, k.tape.trans h.tape, k.output.trans h.output, Nat.le_trans h.size k.size, fun j h1 h2 => (k.block j h1 h2).trans (h.block j h1 h2)⟩
theorem Mv.of_below {lo q B : Nat} {w w' : World} (h : Below B w w') (hB : lo ≤ B) : Mv lo q w w' := ⟨h.os, h.tape, h.output, h.size, fun k hk _ => h.block k (by omega)⟩
theorem Mv.of_within {lo q hi lo' : Nat} {w w' : World} (h : Within lo hi w w') (hl : lo' ≤ lo) (hs : lo' ≤ w.heap.size) : Mv lo' q w w' := ⟨h.os, h.tape, h.output, h.size, fun k hk _ => h.block k (by omega) (by omega)⟩
theorem Mv.setQ {lo q : Nat} {a w : World} (h : Mv lo q a w) (j : Nat) (u : Value) : Mv lo q a (w.setCell ⟨q, j, none⟩ u) :=
  h.trans ⟨rfl, rfl, rfl, by simp, fun k _ hk => Below.heap_setCell _ _ _ _ hk⟩
theorem Mv.drew {lo q : Nat} {a w : World} (h : Mv lo q a w) : Mv lo q a w.drew := ⟨h.os, h.tape, h.output, h.size, h.block⟩
theorem Mv.drewN {lo q : Nat} {a w : World} (h : Mv lo q a w) (n : Nat) : Mv lo q a (w.drewN n) := ⟨h.os, h.tape, h.output, h.size, h.block⟩
theorem Mv.setG {lo q g : Nat} {a w : World} (h : Mv lo q a w) (hg : lo ≤ g) (j : Nat) (u : Value) : Mv lo q a (w.setCell ⟨g, j, none⟩ u) :=
  h.trans ⟨rfl, rfl, rfl, by simp, fun k hk _ => Below.heap_setCell _ _ _ _ (by show k ≠ g; omega)⟩

theorem Mv.only {lo q : Nat} {a w w' : World} (h : Mv lo q a w) (o : Only q w w') : Mv lo q a w' := by
  have b0 := o.2.2 0 (Nat.zero_le _)
  exact h.trans ⟨b0.os, b0.tape, b0.output, b0.size, fun k _ hk => o.2.1 k hk⟩

/-! ### what a heap and a hand keep to while cells are put -/
def good (H : List C) : Prop := (1 ≤ H.length ∧ H.length ≤ 40) ∧ ∀ c ∈ H, -1 ≤ c.next ∧ c.next < (H.length : Int)
structure Fits (n : Nat) (d : Hd) : Prop where
  kind : d.kind = 1
  step : d.step = 0 ∨ d.step = 1 ∨ d.step = 2 ∨ d.step = 3 ∨ d.step = 5
  here : -1 ≤ d.here ∧ d.here < (n : Int)
  own : -1 ≤ d.own ∧ d.own < (n : Int)
theorem good_next {H : List C} (h : good H) (i : Nat) (hi : i < H.length) : -1 ≤ (H[i]).next ∧ (H[i]).next < (H.length : Int) := h.2 _ (List.getElem_mem hi)
theorem good_set {H : List C} (h : good H) (i : Nat) (c : C) (hc : -1 ≤ c.next ∧ c.next < (H.length : Int)) : good (H.set i c) := by
  refine ⟨by simpa using h.1, fun x hx => ?_⟩
  rw [List.length_set]
  rcases List.mem_or_eq_of_mem_set hx with hx | rfl
  · exact h.2 x hx
  · exact hc
theorem leads_fit {H : List C} (h1 : 1 ≤ H.length) {key next : Int} (h : leads H key next) : -1 ≤ next ∧ next < (H.length : Int) := by
  rcases h with h | h
  · omega
  · have := h.1.1; have := h.1.2; omega
theorem good_ok {H : List C} (h : heapOk H) : good H := by
  refine ⟨h.1, fun c hc => ?_⟩
  obtain ⟨i, hi, rfl⟩ := List.getElem_of_mem hc
  by_cases e : i = 0
  · subst e
    have := h.2.1.2.2
    have e := nth_nat H 0 hi
    simp only [Int.natCast_zero] at e
    rw [e] at this
    exact leads_fit h.1.1 this
  · have e : H[i] = (H.drop 1)[i - 1]'(by simp; omega) := by rw [List.getElem_drop]; congr 1; omega
    exact leads_fit h.1.1 (h.2.2 H[i] (by rw [e]; exact List.getElem_mem _)).2
theorem good_swap1 {H : List C} (h : good H) (p next to : Int) : good (swap1 H p next to) := by
  unfold swap1
  split
  · rename_i hs
    exact good_set h _ _ (leads_fit h.1.1 hs.2)
  · exact h
theorem nth_fit {H : List C} (h : good H) (p : Int) (hp : has H p) : -1 ≤ (nth H p).next ∧ (nth H p).next < (H.length : Int) := by
  obtain ⟨i, rfl⟩ : ∃ i : Nat, p = i := ⟨p.toNat, by have := hp.1; omega⟩
  have hi : i < H.length := by have := hp.2; omega
  rw [nth_nat H i hi]
  exact good_next h i hi
theorem good_strike1 {H : List C} (h : good H) (p next : Int) : good (strike1 H p next) := by
  unfold strike1
  split
  · rename_i hs
    exact good_set h _ _ (nth_fit h p hs.2.1)
  · exact h
theorem good_swapH {H : List C} (h : good H) (p to : Int) (ht : -1 ≤ to ∧ to < (H.length : Int)) : good (swapH H p to) := good_set h _ _ ht
theorem Fits.le {n n' : Nat} {d : Hd} (h : Fits n d) (hn : n ≤ n') : Fits n' d := ⟨h.kind, h.step, ⟨h.here.1, by have := h.here.2; omega⟩, ⟨h.own.1, by have := h.own.2; omega⟩⟩

end Go.Proofs.Ytbialeffdpmcjaa.ce
