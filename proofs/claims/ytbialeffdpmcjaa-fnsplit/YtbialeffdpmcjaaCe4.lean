/- Contract of the model's HeapOk. -/
import Derived.Test.YtbialeffdpmcjaaCe3
namespace Go.Proofs.Ytbialeffdpmcjaa.ce
open Go.ChangeShapes Go.WideShapes Go.ChangeAt Go.RowKit
set_option linter.unusedVariables false

def cellOk (H : List C) (i : Nat) (c : C) : Prop := (i = 0 ∨ 1 ≤ c.key ∧ c.key ≤ 65535) ∧ leads H c.key c.next
theorem sp_ok (H : List C) (hm : H.length ≤ 40) (hp : 1 ≤ H.length) (hk : (nth H 0).key = 0) (hg : (nth H 0).gone = false) (hd : ∀ j (hj : j < H.length), cellOk H j H[j]) : heapOk H := by
  refine ok_upto H hm hp ⟨hk, hg, ?_⟩ fun j hj h1 => ?_
  · have := (hd 0 hp).2
    have e := nth_nat H 0 hp
    simp only [Int.natCast_zero] at e
    rw [e]; exact this
  · have := hd j hj
    rcases this.1 with e | e
    · omega
    · exact ⟨e, this.2⟩
theorem sp_bad (H : List C) (j : Nat) (hj : j < H.length) (hb : ¬ cellOk H j H[j]) : ¬ heapOk H := fun ok => by
  by_cases e : j = 0
  · subst e
    refine hb ⟨.inl rfl, ?_⟩
    have := ok.2.1.2.2
    have e := nth_nat H 0 hj
    simp only [Int.natCast_zero] at e
    rw [e] at this; exact this
  · refine absurd ok (right_drop H j hj (by omega) fun r => hb ⟨.inr r.1, r.2⟩)

theorem bad_lo (H : List C) (i : Nat) (c : C) (h : c.next < -1) : ¬ cellOk H i c := fun q => by
  rcases q.2 with q | q
  · omega
  · have := q.1.1; omega
theorem bad_hi (H : List C) (i : Nat) (c : C) (hp : 1 ≤ H.length) (h : (H.length : Int) ≤ c.next) : ¬ cellOk H i c := fun q => by
  rcases q.2 with q | q
  · omega
  · have := q.1.2; omega
theorem bad_in (H : List C) (i : Nat) (c : C) (h0 : ¬ i = 0) (h : ¬ (1 ≤ c.key ∧ c.key ≤ 65535)) : ¬ cellOk H i c := fun q => by
  rcases q.1 with q | q
  · exact h0 q
  · exact h q
theorem bad_le (H : List C) (i : Nat) (c : C) (q : Nat) (hq : q < H.length) (hn : c.next = q) (h : (H[q]).key ≤ c.key) : ¬ cellOk H i c := fun z => by
  rcases z.2 with z | z
  · omega
  · have z2 := z.2
    rw [hn, nth_nat H q hq] at z2
    omega
theorem good_le (H : List C) (i : Nat) (c : C) (q : Nat) (hq : q < H.length) (hn : c.next = q) (hi : i = 0 ∨ 1 ≤ c.key ∧ c.key ≤ 65535) (h : ¬ (H[q]).key ≤ c.key) : cellOk H i c :=
  ⟨hi, .inr ⟨by unfold has; omega, by rw [hn, nth_nat H q hq]; omega⟩⟩

theorem in_any (x lo hi : Int) (w : World) : Calls Try.prog 47 #[.int .i64 x, .int .i64 lo, .int .i64 hi] w fun e w' => e = .returned (.bool (decide (lo ≤ x ∧ x ≤ hi))) ∧ w' = w := by
  by_cases h1 : lo ≤ x
  · by_cases h2 : x ≤ hi
    · go_enter Try.func47, Try.ntmps47
      go_wp2
      go_ret
      exact ⟨by rw [decide_eq_true (And.intro h1 h2)]; rfl, rfl⟩
    · have e : Hid (decide (lo ≤ x ∧ x ≤ hi) = false) := decide_eq_false (fun q => h2 q.2)
      rw [e.out]
      go_enter Try.func47, Try.ntmps47
      go_wp2
      go_ret
      exact ⟨rfl, rfl⟩
  · have e : Hid (decide (lo ≤ x ∧ x ≤ hi) = false) := decide_eq_false (fun q => h1 q.1)
    rw [e.out]
    go_enter Try.func47, Try.ntmps47
    go_wp2
    go_ret
    exact ⟨rfl, rfl⟩

theorem in_is (x lo hi : Int) (y : Bool) (h : decide (lo ≤ x ∧ x ≤ hi) = y) (w : World) : Calls Try.prog 47 #[.int .i64 x, .int .i64 lo, .int .i64 hi] w fun e w' => e = .returned (.bool y) ∧ w' = w := by
  subst h; exact in_any x lo hi w

end Go.Proofs.Ytbialeffdpmcjaa.ce
