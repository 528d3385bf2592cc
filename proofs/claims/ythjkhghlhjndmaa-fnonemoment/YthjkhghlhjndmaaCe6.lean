/- Contracts: Swapped and Struck on a row of one's own, by the model (l3Swap, l3Strike). -/
import Derived.Test.YthjkhghlhjndmaaCe5
namespace Go.Proofs.Ythjkhghlhjndmaa.ce
open Go.ChangeShapes Go.WideShapes Go.ChangeAt Go.RowKit
set_option linter.unusedVariables false

def swapOk (H : List C) (p next to : Int) : Prop := stands H p next ∧ leads H (nth H p).key to
instance (H : List C) (p next to : Int) : Decidable (swapOk H p next to) := by unfold swapOk; infer_instance
def swapH (H : List C) (p to : Int) : List C := H.set p.toNat { nth H p with next := to }
def swap1 (H : List C) (p next to : Int) : List C := if swapOk H p next to then swapH H p to else H
def strikeOk (H : List C) (p next : Int) : Prop := p ≠ 0 ∧ stands H p next
instance (H : List C) (p next : Int) : Decidable (strikeOk H p next) := by unfold strikeOk; infer_instance
def strikeH (H : List C) (p : Int) : List C := H.set p.toNat { nth H p with gone := true }
def strike1 (H : List C) (p next : Int) : List C := if strikeOk H p next then strikeH H p else H
theorem swapH_len (H : List C) (p to : Int) : (swapH H p to).length = H.length := by simp [swapH]
theorem strikeH_len (H : List C) (p : Int) : (strikeH H p).length = H.length := by simp [strikeH]
theorem swap1_len (H : List C) (p next to : Int) : (swap1 H p next to).length = H.length := by unfold swap1; split <;> simp [swapH_len]
theorem strike1_len (H : List C) (p next : Int) : (strike1 H p next).length = H.length := by unfold strike1; split <;> simp [strikeH_len]

theorem Own.cell {w : World} {lo hi g cap n : Nat} {H : List C} (o : Own w lo hi (.slice (some ⟨g, 0, none⟩) n cap) H) (i : Nat) (hi' : i < H.length) :
    w.cell? ⟨g, i * 4, none⟩ = some (.int .i64 (H[i]).key) ∧ w.cell? ⟨g, i * 4 + 1, none⟩ = some (.int .i64 (H[i]).value) ∧ w.cell? ⟨g, i * 4 + 2, none⟩ = some (.int .i64 (H[i]).next) ∧ w.cell? ⟨g, i * 4 + 3, none⟩ = some (.bool (H[i]).gone) := by
  obtain ⟨b, off, e, -, h⟩ := o.rd.cell i hi'
  cases e
  simpa using h
theorem Own.fit {w : World} {lo hi : Nat} {v : Value} {H : List C} (o : Own w lo hi v H) : H.length ≤ 9223372036854775807 := o.rd.len
theorem Own.setNext {w : World} {lo hi g cap : Nat} {H : List C} (o : Own w lo hi (.slice (some ⟨g, 0, none⟩) H.length cap) H) (i : Nat) (hi' : i < H.length) (to : Int) :
    Own (w.setCell ⟨g, i * 4 + 2, none⟩ (.int .i64 to)) lo hi (.slice (some ⟨g, 0, none⟩) H.length cap) (swapH H i to) := by
  have := o.set i hi' 2 (by omega) (.int .i64 to) { H[i] with next := to } rfl
  unfold swapH
  rw [nth_nat H i hi']
  simpa using this
theorem Own.setGone {w : World} {lo hi g cap : Nat} {H : List C} (o : Own w lo hi (.slice (some ⟨g, 0, none⟩) H.length cap) H) (i : Nat) (hi' : i < H.length) :
    Own (w.setCell ⟨g, i * 4 + 3, none⟩ (.bool true)) lo hi (.slice (some ⟨g, 0, none⟩) H.length cap) (strikeH H i) := by
  have := o.set i hi' 3 (by omega) (.bool true) { H[i] with gone := true } rfl
  unfold strikeH
  rw [nth_nat H i hi']
  simpa using this
theorem swap_no {H : List C} {p next to : Int} (h : ¬ swapOk H p next to) : decide (swapOk H p next to) = false ∧ swap1 H p next to = H := ⟨decide_eq_false h, if_neg h⟩
theorem swap_yes {H : List C} {p next to : Int} (h : swapOk H p next to) : decide (swapOk H p next to) = true ∧ swap1 H p next to = swapH H p to := ⟨decide_eq_true h, if_pos h⟩
theorem strike_no {H : List C} {p next : Int} (h : ¬ strikeOk H p next) : decide (strikeOk H p next) = false ∧ strike1 H p next = H := ⟨decide_eq_false h, if_neg h⟩
theorem strike_yes {H : List C} {p next : Int} (h : strikeOk H p next) : decide (strikeOk H p next) = true ∧ strike1 H p next = strikeH H p := ⟨decide_eq_true h, if_pos h⟩

set_option maxHeartbeats 1000000 in
theorem l3Swap_any (H : List C) (p next to : Int) (v : Value) (lo hi : Nat) (w : World) (own : Own w lo hi v H) (h1 : 1 ≤ H.length) :
    Calls Try.prog 100 #[v, .int .i64 p, .int .i64 next, .int .i64 to] w fun e w' => e = .returned (.bool (decide (swapOk H p next to))) ∧ Own w' lo hi v (swap1 H p next to) ∧ Within lo hi w w' := by
  obtain ⟨g, cap, rfl, hg1, hg2, hg3⟩ := own.form h1
  have hl := own.fit
  have O : Hid (Own w lo hi (.slice (some ⟨g, 0, none⟩) H.length cap) H) := own
  clear own
  by_cases hp0 : p < 0
  · have f1 : decide (p < 0) = true := decide_eq_true hp0
    have hno : Hid (¬ swapOk H p next to) := fun q => by have := q.1.1.1; omega
    rw [(swap_no hno.out).1, (swap_no hno.out).2]
    go_enter Try.func100, Try.ntmps100
    go_wp2
    try simp only [Act.put, List.setIfInBounds_toArray, List.set_cons_zero, List.set_cons_succ]
    go_big_quiet (fail)
    go_wp2
    go_ret
    exact ⟨rfl, O.out.keep (fun k _ _ => rfl), Within.of_below (below_drewN _ _) (Nat.le_refl _)⟩
  have f1 : decide (p < 0) = false := decide_eq_false hp0
  by_cases hpn : (H.length : Int) ≤ p
  · have f2 : decide ((H.length : Int) ≤ p) = true := decide_eq_true hpn
    have hno : Hid (¬ swapOk H p next to) := fun q => by have := q.1.1.2; omega
    rw [(swap_no hno.out).1, (swap_no hno.out).2]
    go_enter Try.func100, Try.ntmps100
    go_wp2
    try simp only [Act.put, List.setIfInBounds_toArray, List.set_cons_zero, List.set_cons_succ]
    go_big_quiet (fail)
    go_wp2
    go_ret
    exact ⟨rfl, O.out.keep (fun k _ _ => rfl), Within.of_below (below_drewN _ _) (Nat.le_refl _)⟩
  have f2 : decide ((H.length : Int) ≤ p) = false := decide_eq_false hpn
  obtain ⟨i, rfl⟩ : ∃ i : Nat, p = i := ⟨p.toNat, by omega⟩
  have hil : i < H.length := by omega
  have hil' : (i : Int) < H.length := by omega
  have f2' : decide (H.length ≤ i) = false := decide_eq_false (by omega)
  have en : Hid (nth H (i : Int) = H[i]) := nth_nat H i hil
  have hhas : Hid (has H (i : Int)) := ⟨by omega, by omega⟩
  obtain ⟨c0, -, c2, c3⟩ := O.out.cell i hil
  obtain ⟨k, hk⟩ := hid_ex (H[i]).key
  obtain ⟨n, hn⟩ := hid_ex (H[i]).next
  obtain ⟨gn, hgn⟩ := hid_ex (H[i]).gone
  rw [hk.out] at c0
  rw [hn.out] at c2
  rw [hgn.out] at c3
  by_cases hgt : gn = true
  · have hno0 : ¬ swapOk H (i : Int) next to := fun q => by have := q.1.2.1; rw [en.out, hgn.out, hgt] at this; cases this
    subst hgt
    have hno : Hid (¬ swapOk H (i : Int) next to) := hno0
    rw [(swap_no hno.out).1, (swap_no hno.out).2]
    go_enter Try.func100, Try.ntmps100
    go_wp2
    try simp only [Act.put, List.setIfInBounds_toArray, List.set_cons_zero, List.set_cons_succ]
    go_big_quiet (fail)
    go_wp2
    go_ret
    exact ⟨rfl, O.out.keep (fun k _ _ => rfl), Within.of_below (below_drewN _ _) (Nat.le_refl _)⟩
  obtain rfl : gn = false := by simpa using hgt
  clear hgt
  by_cases hne : n = next
  · subst hne
    have hst : Hid (stands H (i : Int) n) := ⟨hhas.out, by rw [en.out, hgn.out], by rw [en.out, hn.out]⟩
    by_cases ht1 : to < -1
    · have f4 : decide (to < -1) = true := decide_eq_true ht1
      have hno : Hid (¬ swapOk H (i : Int) n to) := fun q => by
        rcases q.2 with q | q
        · omega
        · have := q.1.1; omega
      rw [(swap_no hno.out).1, (swap_no hno.out).2]
      go_enter Try.func100, Try.ntmps100
      go_wp2
      try simp only [Act.put, List.setIfInBounds_toArray, List.set_cons_zero, List.set_cons_succ]
      go_big_quiet (fail)
      go_wp2
      go_ret
      exact ⟨rfl, O.out.keep (fun k _ _ => rfl), Within.of_below (below_drewN _ _) (Nat.le_refl _)⟩
    have f4 : decide (to < -1) = false := decide_eq_false ht1
    by_cases ht2 : (H.length : Int) ≤ to
    · have f5 : decide ((H.length : Int) ≤ to) = true := decide_eq_true ht2
      have hno : Hid (¬ swapOk H (i : Int) n to) := fun q => by
        rcases q.2 with q | q
        · omega
        · have := q.1.2; omega
      rw [(swap_no hno.out).1, (swap_no hno.out).2]
      go_enter Try.func100, Try.ntmps100
      go_wp2
      try simp only [Act.put, List.setIfInBounds_toArray, List.set_cons_zero, List.set_cons_succ]
      go_big_quiet (fail)
      go_wp2
      go_ret
      exact ⟨rfl, O.out.keep (fun k _ _ => rfl), Within.of_below (below_drewN _ _) (Nat.le_refl _)⟩
    have f5 : decide ((H.length : Int) ≤ to) = false := decide_eq_false ht2
    by_cases ht3 : to = -1
    · subst ht3
      have hyes : Hid (swapOk H (i : Int) n (-1)) := ⟨hst.out, .inl rfl⟩
      rw [(swap_yes hyes.out).1, (swap_yes hyes.out).2]
      have hfz := O.out.frozen (i * 4 + 2)
      go_enter Try.func100, Try.ntmps100
      go_wp2
      try simp only [Act.put, List.setIfInBounds_toArray, List.set_cons_zero, List.set_cons_succ]
      go_big_quiet (fail)
      go_wp2
      go_ret
      exact ⟨rfl, Own.setNext (O.out.keep (w' := w.drewN nq) (fun k _ _ => rfl)) i hil _, (Within.of_below (below_drewN _ _) (Nat.le_refl _)).setCell hg1 hg2 _⟩
    obtain ⟨q, rfl⟩ : ∃ q : Nat, to = q := ⟨to.toNat, by omega⟩
    have hql : q < H.length := by omega
    have hql' : (q : Int) < H.length := by omega
    have f5' : decide (H.length ≤ q) = false := decide_eq_false (by omega)
    obtain ⟨y0, -, -, -⟩ := O.out.cell q hql
    obtain ⟨y, hy⟩ := hid_ex (H[q]).key
    rw [hy.out] at y0
    by_cases hD : y ≤ k
    · have fD : decide (y ≤ k) = true := decide_eq_true hD
      have hno0 : ¬ swapOk H (i : Int) n (q : Int) := fun z => by
        rcases z.2 with z | z
        · omega
        · have z2 := z.2
          rw [en.out, hk.out, nth_nat H q hql, hy.out] at z2
          omega
      have hno : Hid (¬ swapOk H (i : Int) n (q : Int)) := hno0
      rw [(swap_no hno.out).1, (swap_no hno.out).2]
      go_enter Try.func100, Try.ntmps100
      go_wp2
      try simp only [Act.put, List.setIfInBounds_toArray, List.set_cons_zero, List.set_cons_succ]
      go_big_quiet (fail)
      go_wp2
      go_ret
      exact ⟨rfl, O.out.keep (fun k _ _ => rfl), Within.of_below (below_drewN _ _) (Nat.le_refl _)⟩
    · have fD : decide (y ≤ k) = false := decide_eq_false hD
      have hyes : Hid (swapOk H (i : Int) n (q : Int)) := ⟨hst.out, .inr ⟨⟨by omega, by omega⟩, by rw [en.out, hk.out, nth_nat H q hql, hy.out]; omega⟩⟩
      rw [(swap_yes hyes.out).1, (swap_yes hyes.out).2]
      have hfz := O.out.frozen (i * 4 + 2)
      go_enter Try.func100, Try.ntmps100
      go_wp2
      try simp only [Act.put, List.setIfInBounds_toArray, List.set_cons_zero, List.set_cons_succ]
      go_big_quiet (fail)
      go_wp2
      go_ret
      exact ⟨rfl, Own.setNext (O.out.keep (w' := w.drewN nq) (fun k _ _ => rfl)) i hil _, (Within.of_below (below_drewN _ _) (Nat.le_refl _)).setCell hg1 hg2 _⟩
  · have f3 : (n == next) = false := by simpa using hne
    have f3' : (n != next) = true := by simpa using hne
    have hno0 : ¬ swapOk H (i : Int) next to := fun q => by have := q.1.2.2; rw [en.out, hn.out] at this; exact hne this
    have hno : Hid (¬ swapOk H (i : Int) next to) := hno0
    rw [(swap_no hno.out).1, (swap_no hno.out).2]
    go_enter Try.func100, Try.ntmps100
    go_wp2
    try simp only [Act.put, List.setIfInBounds_toArray, List.set_cons_zero, List.set_cons_succ]
    go_big_quiet (fail)
    go_wp2
    go_ret
    exact ⟨rfl, O.out.keep (fun k _ _ => rfl), Within.of_below (below_drewN _ _) (Nat.le_refl _)⟩

theorem l3Strike_any (H : List C) (p next : Int) (v : Value) (lo hi : Nat) (w : World) (own : Own w lo hi v H) (h1 : 1 ≤ H.length) :
    Calls Try.prog 104 #[v, .int .i64 p, .int .i64 next] w fun e w' => e = .returned (.bool (decide (strikeOk H p next))) ∧ Own w' lo hi v (strike1 H p next) ∧ Within lo hi w w' := by
  obtain ⟨g, cap, rfl, hg1, hg2, hg3⟩ := own.form h1
  have hl := own.fit
  have O : Hid (Own w lo hi (.slice (some ⟨g, 0, none⟩) H.length cap) H) := own
  clear own
  by_cases hp0 : p < 1
  · have f1 : decide (p < 1) = true := decide_eq_true hp0
    have hno : Hid (¬ strikeOk H p next) := fun q => by have := q.2.1.1; have := q.1; omega
    rw [(strike_no hno.out).1, (strike_no hno.out).2]
    go_enter Try.func104, Try.ntmps104
    go_wp2
    go_ret
    exact ⟨rfl, O.out, Within.refl _ _ _⟩
  have f1 : decide (p < 1) = false := decide_eq_false hp0
  by_cases hpn : (H.length : Int) ≤ p
  · have f2 : decide ((H.length : Int) ≤ p) = true := decide_eq_true hpn
    have hno : Hid (¬ strikeOk H p next) := fun q => by have := q.2.1.2; omega
    rw [(strike_no hno.out).1, (strike_no hno.out).2]
    go_enter Try.func104, Try.ntmps104
    go_wp2
    go_ret
    exact ⟨rfl, O.out, Within.refl _ _ _⟩
  have f2 : decide ((H.length : Int) ≤ p) = false := decide_eq_false hpn
  obtain ⟨i, rfl⟩ : ∃ i : Nat, p = i := ⟨p.toNat, by omega⟩
  have hil : i < H.length := by omega
  have hil' : (i : Int) < H.length := by omega
  have f2' : decide (H.length ≤ i) = false := decide_eq_false (by omega)
  have en : Hid (nth H (i : Int) = H[i]) := nth_nat H i hil
  have hhas : Hid (has H (i : Int)) := ⟨by omega, by omega⟩
  obtain ⟨-, -, c2, c3⟩ := O.out.cell i hil
  obtain ⟨n, hn⟩ := hid_ex (H[i]).next
  obtain ⟨gn, hgn⟩ := hid_ex (H[i]).gone
  rw [hn.out] at c2
  rw [hgn.out] at c3
  by_cases hgt : gn = true
  · have hno0 : ¬ strikeOk H (i : Int) next := fun q => by have := q.2.2.1; rw [en.out, hgn.out, hgt] at this; cases this
    subst hgt
    have hno : Hid (¬ strikeOk H (i : Int) next) := hno0
    rw [(strike_no hno.out).1, (strike_no hno.out).2]
    go_enter Try.func104, Try.ntmps104
    go_wp2
    go_ret
    exact ⟨rfl, O.out, Within.refl _ _ _⟩
  obtain rfl : gn = false := by simpa using hgt
  clear hgt
  by_cases hne : n = next
  · subst hne
    have hyes : Hid (strikeOk H (i : Int) n) := ⟨by omega, hhas.out, by rw [en.out, hgn.out], by rw [en.out, hn.out]⟩
    rw [(strike_yes hyes.out).1, (strike_yes hyes.out).2]
    have hfz := O.out.frozen (i * 4 + 3)
    go_enter Try.func104, Try.ntmps104
    go_wp2
    go_ret
    exact ⟨rfl, O.out.setGone i hil, (Within.refl _ _ _).setCell hg1 hg2 _⟩
  · have f3 : (n == next) = false := by simpa using hne
    have f3' : (n != next) = true := by simpa using hne
    have hno0 : ¬ strikeOk H (i : Int) next := fun q => by have := q.2.2.2; rw [en.out, hn.out] at this; exact hne this
    have hno : Hid (¬ strikeOk H (i : Int) next) := hno0
    rw [(strike_no hno.out).1, (strike_no hno.out).2]
    go_enter Try.func104, Try.ntmps104
    go_wp2
    go_ret
    exact ⟨rfl, O.out, Within.refl _ _ _⟩

end Go.Proofs.Ythjkhghlhjndmaa.ce
