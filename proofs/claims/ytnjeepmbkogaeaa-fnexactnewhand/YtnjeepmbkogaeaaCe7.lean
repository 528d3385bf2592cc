/- Contracts: NewHeap, Fresh, Swapped and Struck, by the program and by the model. -/
import Derived.Test.YtnjeepmbkogaeaaCe6
namespace Go.Proofs.Ytnjeepmbkogaeaa.ce
open Go.ChangeShapes Go.WideShapes Go.ChangeAt Go.RowKit
set_option linter.unusedVariables false

def c0 : C := ⟨0, 0, -1, false⟩
def cell (key value next : Int) : C := ⟨key, value, next, false⟩
def freshOk (H : List C) (key value next : Int) : Prop := heapOk (H ++ [cell key value next])
instance (H : List C) (key value next : Int) : Decidable (freshOk H key value next) := by unfold freshOk; infer_instance
def freshH (H : List C) (key value next : Int) : List C := if heapOk H then (if freshOk H key value next then H ++ [cell key value next] else H) else []
def freshN (H : List C) (key value next : Int) : Int := if heapOk H then (if freshOk H key value next then (H.length : Int) else -1) else -1
def swappedH (H : List C) (p next to : Int) : List C := if heapOk H then swap1 H p next to else []
def swappedB (H : List C) (p next to : Int) : Bool := if heapOk H then decide (swapOk H p next to) else false
def struckH (H : List C) (p next : Int) : List C := if heapOk H then strike1 H p next else []
def struckB (H : List C) (p next : Int) : Bool := if heapOk H then decide (strikeOk H p next) else false

theorem own_lit (w : World) (c : C) : Own (w.alloc (.cells (cv c).toArray 54)) w.heap.size (w.heap.size + 1) (.slice (some ⟨w.heap.size, 0, none⟩) 1 1) [c] :=
  ⟨⟨rfl, .inr ⟨w.heap.size, 1, (cv c).toArray, rfl, Nat.le_refl _, heap_alloc_new _ _, Nat.le_refl _, by unfold maxLen; omega, rfl, rfl⟩⟩, fun g hg => by cases hg; exact Nat.lt_succ_self _⟩
theorem own_empty (w : World) : Own (w.alloc (.cells #[] 54)) w.heap.size (w.heap.size + 1) (.slice (some ⟨w.heap.size, 0, none⟩) 0 0) [] :=
  ⟨⟨rfl, .inr ⟨w.heap.size, 0, #[], rfl, Nat.le_refl _, heap_alloc_new _ _, Nat.le_refl _, by unfold maxLen; omega, rfl, rfl⟩⟩, fun g hg => by cases hg; exact Nat.lt_succ_self _⟩

theorem snoc_len (H : List C) (c : C) : (H ++ [c]).length = H.length + 1 := by simp
theorem lit_range (w : World) (c : C) : (w.alloc (.cells (cv c).toArray 54)).rangeAt w.heap.size 0 (cvs [c]) := by
  have h : VBlk (w.alloc (.cells (cv c).toArray 54)) w.heap.size 54 (cv c) := heap_alloc_new _ _
  have := h.range
  simpa [cvs] using this
theorem implNewHeap_any (w : World) :
    Calls Try.prog 28 #[] w fun e w' => ∃ v', e = .returned v' ∧ Own w' w.heap.size w'.heap.size v' [c0] ∧ Below w.heap.size w w' := by
  go_enter Try.func28, Try.ntmps28
  go_wp2
  go_ret
  exact ⟨_, rfl, (own_lit w c0).wide (Nat.le_refl _) (by simp), (Below.refl _ w).alloc (Nat.le_refl _) _⟩
theorem specNewHeap_any (w : World) :
    Calls Try.prog 45 #[] w fun e w' => ∃ v', e = .returned v' ∧ Own w' w.heap.size w'.heap.size v' [c0] ∧ Below w.heap.size w w' := by
  go_enter Try.func45, Try.ntmps45
  go_wp2
  go_ret
  exact ⟨_, rfl, (own_lit w c0).wide (Nat.le_refl _) (by simp), (Below.refl _ w).alloc (Nat.le_refl _) _⟩

theorem implFresh_any (H : List C) (key value next : Int) (v : Value) (hi : Nat) (w : World) (hh : hi ≤ w.heap.size) (r : Rd w hi v H) :
    Calls Try.prog 87 #[v, .int .i64 key, .int .i64 value, .int .i64 next] w fun e w' => ∃ v', e = .returned (.tuple #[v', .int .i64 (freshN H key value next)]) ∧ Own w' w.heap.size w'.heap.size v' (freshH H key value next) ∧ Below w.heap.size w w' := by
  have R : Hid (Rd w hi v H) := r
  obtain ⟨a, cap, rfl⟩ := r.form
  have hl := r.len
  clear r
  by_cases hok : heapOk H
  · have HK : Hid (decide (heapOk H) = true) := decide_eq_true hok
    have h1 := hok.1.1
    have h2 : H.length ≤ 1048576 := by have := hok.1.2; omega
    by_cases hf : freshOk H key value next
    · have HF : Hid (decide (heapOk (H ++ [cell key value next])) = true) := decide_eq_true hf
      have eN : Hid (freshN H key value next = (H.length : Int)) := by unfold Hid freshN; rw [if_pos hok, if_pos hf]
      have eH : Hid (freshH H key value next = H ++ [cell key value next]) := by unfold Hid freshH; rw [if_pos hok, if_pos hf]
      rw [eN.out, eH.out]
      clear hok hf
      have m1 : Hid True := trivial
      go_enter Try.func87, Try.ntmps87
      go_wp2_with (first | (clear m1; go_at_call 37; refine (implHeapOk_any H _ hi _ hh R.out).mono ?_; rintro e w1 ⟨rfl, hB1⟩; rw [HK.out]) | (go_at_call 91; refine (with_any H (cell key value next) _ hi _ (by have := hB1.size; omega) (R.out.below hB1 hh) h1 h2).mono ?_; rintro e w2 ⟨v2, rfl, hO2, hB2⟩) | (go_at_call 37; refine (implHeapOk_any (H ++ [cell key value next]) _ w2.heap.size _ (Nat.le_refl _) hO2.rd).mono ?_; rintro e w3 ⟨rfl, hB3⟩; rw [HF.out]) | (fail))
      go_ret2
      have z1 := hB1.size
      have z2 := hB2.size
      have z3 := hB3.size
      exact ⟨_, rfl, (hO2.below hB3 (Nat.le_refl _)).wide z1 z3, (hB1.trans (hB2.mono z1)).trans (hB3.mono (by omega))⟩
    · have HF : Hid (decide (heapOk (H ++ [cell key value next])) = false) := decide_eq_false hf
      have eN : Hid (freshN H key value next = -1) := by unfold Hid freshN; rw [if_pos hok, if_neg hf]
      have eH : Hid (freshH H key value next = H) := by unfold Hid freshH; rw [if_pos hok, if_neg hf]
      rw [eN.out, eH.out]
      clear hok hf
      have m1 : Hid True := trivial
      go_enter Try.func87, Try.ntmps87
      go_wp2_with (first | (clear m1; go_at_call 37; refine (implHeapOk_any H _ hi _ hh R.out).mono ?_; rintro e w1 ⟨rfl, hB1⟩; rw [HK.out]) | (go_at_call 91; refine (with_any H (cell key value next) _ hi _ (by have := hB1.size; omega) (R.out.below hB1 hh) h1 h2).mono ?_; rintro e w2 ⟨v2, rfl, hO2, hB2⟩) | (go_at_call 37; refine (implHeapOk_any (H ++ [cell key value next]) _ w2.heap.size _ (Nat.le_refl _) hO2.rd).mono ?_; rintro e w3 ⟨rfl, hB3⟩; rw [HF.out]) | (go_at_call 71; refine (copied_any H _ hi _ (by have := hB1.size; have := hB2.size; have := hB3.size; omega) (((R.out.below hB1 hh).below hB2 (by have := hB1.size; omega)).below hB3 (by have := hB1.size; have := hB2.size; omega)) h1 h2).mono ?_; rintro e w4 ⟨v4, rfl, hO4, hB4⟩) | (fail))
      go_ret2
      have z1 := hB1.size
      have z2 := hB2.size
      have z3 := hB3.size
      exact ⟨_, rfl, hO4.wide (by omega) (Nat.le_refl _), ((hB1.trans (hB2.mono z1)).trans (hB3.mono (by omega))).trans (hB4.mono (by omega))⟩
  · have HK : Hid (decide (heapOk H) = false) := decide_eq_false hok
    have eN : Hid (freshN H key value next = -1) := by unfold Hid freshN; rw [if_neg hok]
    have eH : Hid (freshH H key value next = []) := by unfold Hid freshH; rw [if_neg hok]
    rw [eN.out, eH.out]
    go_enter Try.func87, Try.ntmps87
    go_wp2_with (first | (go_at_call 37; refine (implHeapOk_any H _ hi _ hh R.out).mono ?_; rintro e w1 ⟨rfl, hB1⟩; rw [HK.out]) | (fail))
    go_ret2
    exact ⟨_, rfl, own_none _ _ _, hB1⟩

theorem specFresh_any (H : List C) (key value next : Int) (v : Value) (hi : Nat) (w : World) (hh : hi ≤ w.heap.size) (r : Rd w hi v H) :
    Calls Try.prog 79 #[v, .int .i64 key, .int .i64 value, .int .i64 next] w fun e w' => ∃ v', e = .returned (.tuple #[v', .int .i64 (freshN H key value next)]) ∧ Own w' w.heap.size w'.heap.size v' (freshH H key value next) ∧ Below w.heap.size w w' := by
  have R : Hid (Rd w hi v H) := r
  obtain ⟨a, cap, rfl⟩ := r.form
  have hl := r.len
  clear r
  have m1 : Hid True := trivial
  have m2 : Hid True := trivial
  by_cases hok : heapOk H
  · have HK : Hid (decide (heapOk H) = true) := decide_eq_true hok
    have h1 := hok.1.1
    have h2 : H.length ≤ 1048576 := by have := hok.1.2; omega
    have h3 : H.length + 1 ≤ 1048576 := by have := hok.1.2; omega
    by_cases hf : freshOk H key value next
    · have HF : Hid (decide (heapOk (H ++ [cell key value next])) = true) := decide_eq_true hf
      have eN : Hid (freshN H key value next = (H.length : Int)) := by unfold Hid freshN; rw [if_pos hok, if_pos hf]
      have eH : Hid (freshH H key value next = H ++ [cell key value next]) := by unfold Hid freshH; rw [if_pos hok, if_pos hf]
      rw [eN.out, eH.out]
      clear hok hf
      go_enter Try.func79, Try.ntmps79
      go_wp2_with (first | (clear m1; go_at_call 34; refine (specHeapOk_any H _ hi _ hh R.out).mono ?_; rintro e w1 ⟨rfl, hB1⟩; rw [HK.out]) | (clear m2; go_at_call 48; refine (l3Copy_any H _ hi _ (by have := hB1.size; omega) (R.out.below hB1 hh) h1 h2).mono ?_; rintro e w2 ⟨v2, rfl, hO2, hB2⟩; obtain ⟨g2, cap2, rfl, -, -, -⟩ := hO2.form h1) | (at_builtin; refine wpList_append_c rfl _ _ 27 rfl Try.underlying27 w1.heap.size w2.heap.size _ H rfl (hO2.below ((Below.refl _ w2).alloc (Nat.le_refl _) _) (Nat.le_refl _)) (by have := hB2.size; simp; omega) w2.heap.size 0 1 1 [cell key value next] rfl rfl (lit_range w2 (cell key value next)) h3 ?_; intro v3 w3 hO3 hB3; obtain ⟨g3, cap3, rfl, -, -, -⟩ := hO3.form (by simp); rw [snoc_len] at hO3 ⊢; have z1 := hB1.size; have z2 := hB2.size; have hBw : Below w.heap.size w w3 := ((hB1.trans (hB2.mono z1)).trans ((Below.refl _ w2).alloc (by omega) _)).trans (hB3.mono z1); have z3 := hBw.size; have z3' : w1.heap.size ≤ w3.heap.size := (by have := hB3.size; simp at this; omega)) | (go_at_call 34; refine (specHeapOk_any (H ++ [cell key value next]) _ w3.heap.size _ (Nat.le_refl _) hO3.rd).mono ?_; rintro e w4 ⟨rfl, hB4⟩; rw [HF.out]; have z4 := hB4.size) | (fail))
      go_ret2
      exact ⟨_, rfl, (hO3.below hB4 (Nat.le_refl _)).wide z1 z4, hBw.trans (hB4.mono (by omega))⟩
    · have HF : Hid (decide (heapOk (H ++ [cell key value next])) = false) := decide_eq_false hf
      have eN : Hid (freshN H key value next = -1) := by unfold Hid freshN; rw [if_pos hok, if_neg hf]
      have eH : Hid (freshH H key value next = H) := by unfold Hid freshH; rw [if_pos hok, if_neg hf]
      rw [eN.out, eH.out]
      clear hok hf
      go_enter Try.func79, Try.ntmps79
      go_wp2_with (first | (clear m1; go_at_call 34; refine (specHeapOk_any H _ hi _ hh R.out).mono ?_; rintro e w1 ⟨rfl, hB1⟩; rw [HK.out]) | (clear m2; go_at_call 48; refine (l3Copy_any H _ hi _ (by have := hB1.size; omega) (R.out.below hB1 hh) h1 h2).mono ?_; rintro e w2 ⟨v2, rfl, hO2, hB2⟩; obtain ⟨g2, cap2, rfl, -, -, -⟩ := hO2.form h1) | (at_builtin; refine wpList_append_c rfl _ _ 27 rfl Try.underlying27 w1.heap.size w2.heap.size _ H rfl (hO2.below ((Below.refl _ w2).alloc (Nat.le_refl _) _) (Nat.le_refl _)) (by have := hB2.size; simp; omega) w2.heap.size 0 1 1 [cell key value next] rfl rfl (lit_range w2 (cell key value next)) h3 ?_; intro v3 w3 hO3 hB3; obtain ⟨g3, cap3, rfl, -, -, -⟩ := hO3.form (by simp); rw [snoc_len] at hO3 ⊢; have z1 := hB1.size; have z2 := hB2.size; have hBw : Below w.heap.size w w3 := ((hB1.trans (hB2.mono z1)).trans ((Below.refl _ w2).alloc (by omega) _)).trans (hB3.mono z1); have z3 := hBw.size; have z3' : w1.heap.size ≤ w3.heap.size := (by have := hB3.size; simp at this; omega)) | (go_at_call 34; refine (specHeapOk_any (H ++ [cell key value next]) _ w3.heap.size _ (Nat.le_refl _) hO3.rd).mono ?_; rintro e w4 ⟨rfl, hB4⟩; rw [HF.out]; have z4 := hB4.size) | (go_at_call 48; refine (l3Copy_any H _ hi _ (by omega) ((R.out.below hBw (by omega)).below hB4 (by omega)) h1 h2).mono ?_; rintro e w5 ⟨v5, rfl, hO5, hB5⟩) | (fail))
      go_ret2
      exact ⟨_, rfl, hO5.wide (by omega) (Nat.le_refl _), (hBw.trans (hB4.mono (by omega))).trans (hB5.mono (by omega))⟩
  · have HK : Hid (decide (heapOk H) = false) := decide_eq_false hok
    have eN : Hid (freshN H key value next = -1) := by unfold Hid freshN; rw [if_neg hok]
    have eH : Hid (freshH H key value next = []) := by unfold Hid freshH; rw [if_neg hok]
    rw [eN.out, eH.out]
    go_enter Try.func79, Try.ntmps79
    go_wp2_with (first | (clear m1; go_at_call 34; refine (specHeapOk_any H _ hi _ hh R.out).mono ?_; rintro e w1 ⟨rfl, hB1⟩; rw [HK.out]) | (fail))
    go_ret2
    exact ⟨_, rfl, (own_empty w1).wide hB1.size (by simp), hB1.trans ((Below.refl _ w1).alloc hB1.size _)⟩

theorem implSwapped_any (H : List C) (p next to : Int) (v : Value) (hi : Nat) (w : World) (hh : hi ≤ w.heap.size) (r : Rd w hi v H) :
    Calls Try.prog 72 #[v, .int .i64 p, .int .i64 next, .int .i64 to] w fun e w' => ∃ v', e = .returned (.tuple #[v', .bool (swappedB H p next to)]) ∧ Own w' w.heap.size w'.heap.size v' (swappedH H p next to) ∧ Below w.heap.size w w' := by
  have R : Hid (Rd w hi v H) := r
  obtain ⟨a, cap, rfl⟩ := r.form
  have hl := r.len
  clear r
  by_cases hok : heapOk H
  · have HK : Hid (decide (heapOk H) = true) := decide_eq_true hok
    have h1 := hok.1.1
    have h2 : H.length ≤ 1048576 := by have := hok.1.2; omega
    have eN : Hid (swappedB H p next to = decide (swapOk H p next to)) := by unfold Hid swappedB; rw [if_pos hok]
    have eH : Hid (swappedH H p next to = swap1 H p next to) := by unfold Hid swappedH; rw [if_pos hok]
    rw [eN.out, eH.out]
    clear hok
    by_cases hst : stands H p next
    · have HS : Hid (decide (stands H p next) = true) := decide_eq_true hst
      obtain ⟨i, rfl⟩ : ∃ i : Nat, p = i := ⟨p.toNat, by have := hst.1.1; omega⟩
      have hil : i < H.length := by have := hst.1.2; omega
      have hil' : (i : Int) < H.length := by omega
      have en : Hid (nth H (i : Int) = H[i]) := nth_nat H i hil
      obtain ⟨k, hk⟩ := hid_ex (H[i]).key
      by_cases hle : leads H k to
      · have HL : Hid (decide (leads H k to) = true) := decide_eq_true hle
        have hyes : swapOk H (i : Int) next to := ⟨hst, by rw [en.out, hk.out]; exact hle⟩
        rw [(swap_yes hyes).1, (swap_yes hyes).2]
        clear hyes hst hle
        go_enter Try.func72, Try.ntmps72
        go_wp2_with (first | (go_at_call 37; refine (implHeapOk_any H _ hi _ hh R.out).mono ?_; rintro e w1 ⟨rfl, hB1⟩; rw [HK.out]) | (go_at_call 71; refine (copied_any H _ hi _ (by have := hB1.size; omega) (R.out.below hB1 hh) h1 h2).mono ?_; rintro e w2 ⟨v2, rfl, hO2, hB2⟩; obtain ⟨g2, cap2, rfl, hg1, hg2, -⟩ := hO2.form h1; obtain ⟨d0, -, d2, -⟩ := hO2.cell i hil; rw [hk.out] at d0; have df := hO2.frozen (i * 4 + 2)) | (go_at_call 80; refine (stands_any H (i : Int) next _ _ _ hO2.rd).mono ?_; rintro e wq ⟨rfl, hq⟩; subst wq; rw [HS.out]) | (go_at_call 77; refine (leads_any H k to _ _ _ hO2.rd).mono ?_; rintro e wq ⟨rfl, hq⟩; subst wq; rw [HL.out]) | (fail))
        go_ret2
        have z1 := hB1.size
        exact ⟨_, rfl, (hO2.setNext i hil to).wide z1 (by simp), (hB1.trans (hB2.mono z1)).setCell (by show w.heap.size ≤ g2; omega) _⟩
      · have HL : Hid (decide (leads H k to) = false) := decide_eq_false hle
        have hno : ¬ swapOk H (i : Int) next to := fun q => hle (by have := q.2; rw [en.out, hk.out] at this; exact this)
        rw [(swap_no hno).1, (swap_no hno).2]
        clear hno hst hle
        go_enter Try.func72, Try.ntmps72
        go_wp2_with (first | (go_at_call 37; refine (implHeapOk_any H _ hi _ hh R.out).mono ?_; rintro e w1 ⟨rfl, hB1⟩; rw [HK.out]) | (go_at_call 71; refine (copied_any H _ hi _ (by have := hB1.size; omega) (R.out.below hB1 hh) h1 h2).mono ?_; rintro e w2 ⟨v2, rfl, hO2, hB2⟩; obtain ⟨g2, cap2, rfl, hg1, hg2, -⟩ := hO2.form h1; obtain ⟨d0, -, d2, -⟩ := hO2.cell i hil; rw [hk.out] at d0) | (go_at_call 80; refine (stands_any H (i : Int) next _ _ _ hO2.rd).mono ?_; rintro e wq ⟨rfl, hq⟩; subst wq; rw [HS.out]) | (go_at_call 77; refine (leads_any H k to _ _ _ hO2.rd).mono ?_; rintro e wq ⟨rfl, hq⟩; subst wq; rw [HL.out]) | (fail))
        go_ret2
        have z1 := hB1.size
        exact ⟨_, rfl, hO2.wide z1 (Nat.le_refl _), hB1.trans (hB2.mono z1)⟩
    · have HS : Hid (decide (stands H p next) = false) := decide_eq_false hst
      have hno : ¬ swapOk H p next to := fun q => hst q.1
      rw [(swap_no hno).1, (swap_no hno).2]
      clear hno hst
      go_enter Try.func72, Try.ntmps72
      go_wp2_with (first | (go_at_call 37; refine (implHeapOk_any H _ hi _ hh R.out).mono ?_; rintro e w1 ⟨rfl, hB1⟩; rw [HK.out]) | (go_at_call 71; refine (copied_any H _ hi _ (by have := hB1.size; omega) (R.out.below hB1 hh) h1 h2).mono ?_; rintro e w2 ⟨v2, rfl, hO2, hB2⟩; obtain ⟨g2, cap2, rfl, hg1, hg2, -⟩ := hO2.form h1) | (go_at_call 80; refine (stands_any H p next _ _ _ hO2.rd).mono ?_; rintro e wq ⟨rfl, hq⟩; subst wq; rw [HS.out]) | (fail))
      go_ret2
      have z1 := hB1.size
      exact ⟨_, rfl, hO2.wide z1 (Nat.le_refl _), hB1.trans (hB2.mono z1)⟩
  · have HK : Hid (decide (heapOk H) = false) := decide_eq_false hok
    have eN : Hid (swappedB H p next to = false) := by unfold Hid swappedB; rw [if_neg hok]
    have eH : Hid (swappedH H p next to = []) := by unfold Hid swappedH; rw [if_neg hok]
    rw [eN.out, eH.out]
    go_enter Try.func72, Try.ntmps72
    go_wp2_with (first | (go_at_call 37; refine (implHeapOk_any H _ hi _ hh R.out).mono ?_; rintro e w1 ⟨rfl, hB1⟩; rw [HK.out]) | (fail))
    go_ret2
    exact ⟨_, rfl, own_none _ _ _, hB1⟩

theorem implStruck_any (H : List C) (p next : Int) (v : Value) (hi : Nat) (w : World) (hh : hi ≤ w.heap.size) (r : Rd w hi v H) :
    Calls Try.prog 74 #[v, .int .i64 p, .int .i64 next] w fun e w' => ∃ v', e = .returned (.tuple #[v', .bool (struckB H p next)]) ∧ Own w' w.heap.size w'.heap.size v' (struckH H p next) ∧ Below w.heap.size w w' := by
  have R : Hid (Rd w hi v H) := r
  obtain ⟨a, cap, rfl⟩ := r.form
  have hl := r.len
  clear r
  by_cases hok : heapOk H
  · have HK : Hid (decide (heapOk H) = true) := decide_eq_true hok
    have h1 := hok.1.1
    have h2 : H.length ≤ 1048576 := by have := hok.1.2; omega
    have eN : Hid (struckB H p next = decide (strikeOk H p next)) := by unfold Hid struckB; rw [if_pos hok]
    have eH : Hid (struckH H p next = strike1 H p next) := by unfold Hid struckH; rw [if_pos hok]
    rw [eN.out, eH.out]
    clear hok
    by_cases hp0 : p = 0
    · subst hp0
      have hno : ¬ strikeOk H 0 next := fun q => q.1 rfl
      rw [(strike_no hno).1, (strike_no hno).2]
      clear hno
      go_enter Try.func74, Try.ntmps74
      go_wp2_with (first | (go_at_call 37; refine (implHeapOk_any H _ hi _ hh R.out).mono ?_; rintro e w1 ⟨rfl, hB1⟩; rw [HK.out]) | (go_at_call 71; refine (copied_any H _ hi _ (by have := hB1.size; omega) (R.out.below hB1 hh) h1 h2).mono ?_; rintro e w2 ⟨v2, rfl, hO2, hB2⟩; obtain ⟨g2, cap2, rfl, hg1, hg2, -⟩ := hO2.form h1) | (fail))
      go_ret2
      have z1 := hB1.size
      exact ⟨_, rfl, hO2.wide z1 (Nat.le_refl _), hB1.trans (hB2.mono z1)⟩
    have hpf : (p == 0) = false := by simpa using hp0
    by_cases hst : stands H p next
    · have HS : Hid (decide (stands H p next) = true) := decide_eq_true hst
      have hyes : strikeOk H p next := ⟨hp0, hst⟩
      rw [(strike_yes hyes).1, (strike_yes hyes).2]
      obtain ⟨i, rfl⟩ : ∃ i : Nat, p = i := ⟨p.toNat, by have := hst.1.1; omega⟩
      have hil : i < H.length := by have := hst.1.2; omega
      have hil' : (i : Int) < H.length := by omega
      clear hyes hst
      go_enter Try.func74, Try.ntmps74
      go_wp2_with (first | (go_at_call 37; refine (implHeapOk_any H _ hi _ hh R.out).mono ?_; rintro e w1 ⟨rfl, hB1⟩; rw [HK.out]) | (go_at_call 71; refine (copied_any H _ hi _ (by have := hB1.size; omega) (R.out.below hB1 hh) h1 h2).mono ?_; rintro e w2 ⟨v2, rfl, hO2, hB2⟩; obtain ⟨g2, cap2, rfl, hg1, hg2, -⟩ := hO2.form h1; obtain ⟨-, -, -, d3⟩ := hO2.cell i hil; have df := hO2.frozen (i * 4 + 3)) | (go_at_call 80; refine (stands_any H (i : Int) next _ _ _ hO2.rd).mono ?_; rintro e wq ⟨rfl, hq⟩; subst wq; rw [HS.out]) | (fail))
      go_ret2
      have z1 := hB1.size
      exact ⟨_, rfl, (hO2.setGone i hil).wide z1 (by simp), (hB1.trans (hB2.mono z1)).setCell (by show w.heap.size ≤ g2; omega) _⟩
    · have HS : Hid (decide (stands H p next) = false) := decide_eq_false hst
      have hno : ¬ strikeOk H p next := fun q => hst q.2
      rw [(strike_no hno).1, (strike_no hno).2]
      clear hno hst
      go_enter Try.func74, Try.ntmps74
      go_wp2_with (first | (go_at_call 37; refine (implHeapOk_any H _ hi _ hh R.out).mono ?_; rintro e w1 ⟨rfl, hB1⟩; rw [HK.out]) | (go_at_call 71; refine (copied_any H _ hi _ (by have := hB1.size; omega) (R.out.below hB1 hh) h1 h2).mono ?_; rintro e w2 ⟨v2, rfl, hO2, hB2⟩; obtain ⟨g2, cap2, rfl, hg1, hg2, -⟩ := hO2.form h1) | (go_at_call 80; refine (stands_any H p next _ _ _ hO2.rd).mono ?_; rintro e wq ⟨rfl, hq⟩; subst wq; rw [HS.out]) | (fail))
      go_ret2
      have z1 := hB1.size
      exact ⟨_, rfl, hO2.wide z1 (Nat.le_refl _), hB1.trans (hB2.mono z1)⟩
  · have HK : Hid (decide (heapOk H) = false) := decide_eq_false hok
    have eN : Hid (struckB H p next = false) := by unfold Hid struckB; rw [if_neg hok]
    have eH : Hid (struckH H p next = []) := by unfold Hid struckH; rw [if_neg hok]
    rw [eN.out, eH.out]
    go_enter Try.func74, Try.ntmps74
    go_wp2_with (first | (go_at_call 37; refine (implHeapOk_any H _ hi _ hh R.out).mono ?_; rintro e w1 ⟨rfl, hB1⟩; rw [HK.out]) | (fail))
    go_ret2
    exact ⟨_, rfl, own_none _ _ _, hB1⟩

end Go.Proofs.Ytnjeepmbkogaeaa.ce
