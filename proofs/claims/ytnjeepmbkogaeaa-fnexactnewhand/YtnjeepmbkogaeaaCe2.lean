/- Contracts: what a heap of cells is, by the program and by the model. -/
import Derived.Test.YtnjeepmbkogaeaaCe1
namespace Go.Proofs.Ytnjeepmbkogaeaa.ce
open Go.ChangeShapes Go.WideShapes Go.ChangeAt Go.RowKit
set_option linter.unusedVariables false

def right (h : List C) (c : C) : Prop := (1 ≤ c.key ∧ c.key ≤ 65535) ∧ leads h c.key c.next
instance (h : List C) (c : C) : Decidable (right h c) := by unfold right; infer_instance
def first (h : List C) : Prop := (nth h 0).key = 0 ∧ (nth h 0).gone = false ∧ leads h (nth h 0).key (nth h 0).next
instance (h : List C) : Decidable (first h) := by unfold first; infer_instance
def heapOk (h : List C) : Prop := (1 ≤ h.length ∧ h.length ≤ 40) ∧ first h ∧ ∀ c ∈ h.drop 1, right h c
instance (h : List C) : Decidable (heapOk h) := by unfold heapOk; infer_instance
/-- a cell that stands as it was told -/
def stands (h : List C) (p next : Int) : Prop := has h p ∧ (nth h p).gone = false ∧ (nth h p).next = next
instance (h : List C) (p next : Int) : Decidable (stands h p next) := by unfold stands; infer_instance

theorem firstRight_any (h : List C) (v : Value) (hi : Nat) (w : World) (hh : hi ≤ w.heap.size) (r : Rd w hi v h) (h1 : 1 ≤ h.length) :
    Calls Try.prog 60 #[v] w fun e w' => e = .returned (.bool (decide (first h))) ∧ Below w.heap.size w w' := by
  obtain ⟨a, cap, rfl⟩ := r.form
  have hl := r.len
  obtain ⟨b, off, rfl, hb, c0, -, c2, c3⟩ := r.cell 0 h1
  have e0 : Hid (nth h 0 = h[0]) := nth_nat h 0 h1
  simp only [Nat.zero_mul, Nat.add_zero] at c0 c2 c3
  have R : Hid (Rd w hi (.slice (some ⟨b, off, none⟩) h.length cap) h) := r
  clear r
  obtain ⟨k, hk⟩ := hid_ex (h[0]).key
  obtain ⟨n, hn⟩ := hid_ex (h[0]).next
  obtain ⟨g, hg⟩ := hid_ex (h[0]).gone
  rw [hk.out] at c0
  rw [hn.out] at c2
  rw [hg.out] at c3
  have hpos : (0 : Int) < h.length := by omega
  have hpos' : 0 < h.length := h1
  have S : w.cell? ⟨b, off, none⟩ = some (.int .i64 k) ∧ w.cell? ⟨b, off + 2, none⟩ = some (.int .i64 n) ∧ w.cell? ⟨b, off + 3, none⟩ = some (.bool g) := ⟨c0, c2, c3⟩
  have fin : Hid (decide (first h) = ((k == 0) && (!g) && decide (leads h k n))) := by
    unfold Hid
    rw [Bool.eq_iff_iff, decide_eq_true_iff]
    unfold first
    rw [e0.out, hk.out, hn.out, hg.out]
    cases g <;> simp
  rw [fin.out]
  by_cases hk0 : k = 0
  · subst hk0
    cases g
    · go_enter Try.func60, Try.ntmps60
      go_wp2
      go_quiet (first | (go_at_call 77; refine Calls.quiet_of_same (leads_any h 0 n _ hi _ (R.out.drewN _))) | (fail))
      go_wp2
      go_ret
      exact ⟨by simp, below_drewN _ _⟩
    · obtain ⟨g, hgt⟩ : ∃ g, g = true := ⟨_, rfl⟩
      have hgn : (!g) = false := by rw [hgt]; rfl
      rw [← hgt] at S c3 ⊢
      clear hgt
      go_enter Try.func60, Try.ntmps60
      go_wp2
      go_quiet (fail)
      go_wp2
      go_ret
      exact ⟨by first | (simp; done) | simp [hgn], below_drewN _ _⟩
  · have hkf : (k == 0) = false := by simpa using hk0
    go_enter Try.func60, Try.ntmps60
    go_wp2
    go_quiet (fail)
    go_wp2
    go_ret
    exact ⟨by simp [hkf], below_drewN _ _⟩

theorem otherRight_any (h : List C) (c : C) (v : Value) (hi : Nat) (w : World) (hh : hi ≤ w.heap.size) (r : Rd w hi v h) :
    Calls Try.prog 61 #[v, .agg (cv c).toArray] w fun e w' => e = .returned (.bool (decide (right h c))) ∧ Below w.heap.size w w' := by
  obtain ⟨a, cap, rfl⟩ := r.form
  have R : Hid (Rd w hi (.slice a h.length cap) h) := r
  clear r
  obtain ⟨k, x, n, g⟩ := c
  have fin : Hid (decide (right h ⟨k, x, n, g⟩) = (decide (1 ≤ k) && decide (k ≤ 65535) && decide (leads h k n))) := by
    unfold Hid
    rw [Bool.eq_iff_iff, decide_eq_true_iff]
    unfold right
    simp
  rw [fin.out]
  by_cases h1 : 1 ≤ k
  · by_cases h2 : k ≤ 65535
    · go_enter Try.func61, Try.ntmps61
      go_wp2_with (first | (refine wpList_box_v rfl 54 _ rfl [.int .i64 k, .int .i64 x, .int .i64 n, .bool g] rfl ?_; intro b1 w1 hb1 hw1 hB1 hV1; have c0 := hV1.cell 0 (by simp); have c2 := hV1.cell 2 (by simp); simp only [List.getElem_cons_zero, List.getElem_cons_succ] at c0 c2) | (go_at_call 77; refine (leads_any h k n _ hi _ (R.out.below hB1 hh)).mono ?_; rintro e wq ⟨rfl, hq⟩; subst wq) | (fail))
      go_ret
      exact ⟨by simp [h1, h2], hB1⟩
    · go_enter Try.func61, Try.ntmps61
      go_wp2_with (first | (refine wpList_box_v rfl 54 _ rfl [.int .i64 k, .int .i64 x, .int .i64 n, .bool g] rfl ?_; intro b1 w1 hb1 hw1 hB1 hV1; have c0 := hV1.cell 0 (by simp); have c2 := hV1.cell 2 (by simp); simp only [List.getElem_cons_zero, List.getElem_cons_succ] at c0 c2) | (fail))
      go_ret
      exact ⟨by rw [decide_eq_false (by omega : ¬ k ≤ 65535)]; simp, hB1⟩
  · go_enter Try.func61, Try.ntmps61
    go_wp2_with (first | (refine wpList_box_v rfl 54 _ rfl [.int .i64 k, .int .i64 x, .int .i64 n, .bool g] rfl ?_; intro b1 w1 hb1 hw1 hB1 hV1; have c0 := hV1.cell 0 (by simp); have c2 := hV1.cell 2 (by simp); simp only [List.getElem_cons_zero, List.getElem_cons_succ] at c0 c2) | (fail))
    go_ret
    exact ⟨by rw [decide_eq_false (by omega : ¬ 1 ≤ k)]; simp, hB1⟩

theorem stands_any (h : List C) (p next : Int) (v : Value) (hi : Nat) (w : World) (r : Rd w hi v h) :
    Calls Try.prog 80 #[v, .int .i64 p, .int .i64 next] w fun e w' => e = .returned (.bool (decide (stands h p next))) ∧ w' = w := by
  obtain ⟨a, cap, rfl⟩ := r.form
  have hl := r.len
  by_cases h1 : has h p
  · obtain ⟨i, rfl⟩ : ∃ i : Nat, p = i := ⟨p.toNat, by have := h1.1; omega⟩
    have hi1 : i < h.length := by have := h1.2; omega
    obtain ⟨b, off, rfl, -, -, -, c2, c3⟩ := r.cell i hi1
    have hd : Hid (decide (has h (i : Int)) = true) := by unfold Hid; simpa using h1
    obtain ⟨n, hn⟩ := hid_ex (h[i]).next
    obtain ⟨g, hg⟩ := hid_ex (h[i]).gone
    rw [hn.out] at c2
    rw [hg.out] at c3
    have fin : Hid (decide (stands h (i : Int) next) = ((!g) && (n == next))) := by
      unfold Hid
      rw [Bool.eq_iff_iff, decide_eq_true_iff]
      unfold stands
      rw [nth_nat h i hi1, hn.out, hg.out]
      cases g <;> simp [h1]
    have hi1' : (i : Int) < h.length := by omega
    clear r h1
    rw [fin.out]
    cases g
    · go_enter Try.func80, Try.ntmps80
      go_wp2_with (first | (go_at_call 64; refine (has_any h (i : Int) _ _ hl _).mono ?_; rintro e wq ⟨rfl, hq⟩; subst wq; rw [hd.out]))
      go_ret
      exact ⟨by simp, rfl⟩
    · go_enter Try.func80, Try.ntmps80
      go_wp2_with (first | (go_at_call 64; refine (has_any h (i : Int) _ _ hl _).mono ?_; rintro e wq ⟨rfl, hq⟩; subst wq; rw [hd.out]))
      go_ret
      exact ⟨by simp, rfl⟩
  · have hd : Hid (decide (has h p) = false) := by unfold Hid; simpa using h1
    have e : Hid (decide (stands h p next) = false) := decide_eq_false (by unfold stands; simp [h1])
    clear r
    rw [e.out]
    go_enter Try.func80, Try.ntmps80
    go_wp2_with (first | (go_at_call 64; refine (has_any h p _ _ hl _).mono ?_; rintro e wq ⟨rfl, hq⟩; subst wq; rw [hd.out]))
    go_ret
    exact ⟨rfl, rfl⟩

end Go.Proofs.Ytnjeepmbkogaeaa.ce
