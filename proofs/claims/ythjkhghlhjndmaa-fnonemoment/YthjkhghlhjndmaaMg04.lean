/- Texts laid together: Ce7 Hd1 Hf1 Cl1 ClOpen Ha1 CeMath CeChain HdMath1 HdMath2. -/
import Derived.Test.YthjkhghlhjndmaaCe6
import Derived.Deep.Slices
import Derived.Lib.SmallJoins
import Derived.ShutString
import Derived.ChangeOld
/- Contracts: NewHeap, Fresh, Swapped and Struck, by the program and by the model. -/
namespace Go.Proofs.Ythjkhghlhjndmaa.ce
open Go.ChangeShapes Go.WideShapes Go.ChangeAt Go.RowKit
set_option linter.unusedVariables false

def c0 : C := ⟨0, 0, -1, false⟩
def cell (key value next : Int) : C := ⟨key, value, next, false⟩
def freshOk (H : List C) (key value next : Int) : Prop := heapOk (H ++ [cell key value next])
instance (H : List C) (key value next : Int) : Decidable (freshOk H key value next) := by unfold freshOk; infer_instance
def freshH (H : List C) (key value next : Int) : List C := if heapOk H then (if freshOk H key value next then H ++ [cell key value next] else H) else []
def freshN (H : List C) (key value next : Int) : Int := if heapOk H then (if freshOk H key value next then (H.length : Int) else -1) else -1
def swappedH (H : List C) (p next to : Int) : List C := if heapOk H then swap1 H p next to else []
def swappedB (H : List C) (p next to : Int) : Bool := if heapOk H then decide (swapOk H p next to) else false
def struckH (H : List C) (p next : Int) : List C := if heapOk H then strike1 H p next else []
def struckB (H : List C) (p next : Int) : Bool := if heapOk H then decide (strikeOk H p next) else false

theorem own_lit (w : World) (c : C) : Own (w.alloc (.cells (cv c).toArray 97)) w.heap.size (w.heap.size + 1) (.slice (some ⟨w.heap.size, 0, none⟩) 1 1) [c] :=
  ⟨⟨rfl, .inr ⟨w.heap.size, 1, (cv c).toArray, rfl, Nat.le_refl _, heap_alloc_new _ _, Nat.le_refl _, by unfold maxLen; omega, rfl, rfl⟩⟩, fun g hg => by cases hg; exact Nat.lt_succ_self _⟩
theorem own_empty (w : World) : Own (w.alloc (.cells #[] 97)) w.heap.size (w.heap.size + 1) (.slice (some ⟨w.heap.size, 0, none⟩) 0 0) [] :=
  ⟨⟨rfl, .inr ⟨w.heap.size, 0, #[], rfl, Nat.le_refl _, heap_alloc_new _ _, Nat.le_refl _, by unfold maxLen; omega, rfl, rfl⟩⟩, fun g hg => by cases hg; exact Nat.lt_succ_self _⟩

theorem snoc_len (H : List C) (c : C) : (H ++ [c]).length = H.length + 1 := by simp
theorem lit_range (w : World) (c : C) : (w.alloc (.cells (cv c).toArray 97)).rangeAt w.heap.size 0 (cvs [c]) := by
  have h : VBlk (w.alloc (.cells (cv c).toArray 97)) w.heap.size 97 (cv c) := heap_alloc_new _ _
  have := h.range
  simpa [cvs] using this
theorem implNewHeap_any (w : World) :
    Calls Try.prog 54 #[] w fun e w' => ∃ v', e = .returned v' ∧ Own w' w.heap.size w'.heap.size v' [c0] ∧ Below w.heap.size w w' := by
  go_enter Try.func54, Try.ntmps54
  go_wp2
  go_ret
  exact ⟨_, rfl, (own_lit w c0).wide (Nat.le_refl _) (by simp), (Below.refl _ w).alloc (Nat.le_refl _) _⟩
theorem specNewHeap_any (w : World) :
    Calls Try.prog 51 #[] w fun e w' => ∃ v', e = .returned v' ∧ Own w' w.heap.size w'.heap.size v' [c0] ∧ Below w.heap.size w w' := by
  go_enter Try.func51, Try.ntmps51
  go_wp2
  go_ret
  exact ⟨_, rfl, (own_lit w c0).wide (Nat.le_refl _) (by simp), (Below.refl _ w).alloc (Nat.le_refl _) _⟩

theorem implFresh_any (H : List C) (key value next : Int) (v : Value) (hi : Nat) (w : World) (hh : hi ≤ w.heap.size) (r : Rd w hi v H) :
    Calls Try.prog 137 #[v, .int .i64 key, .int .i64 value, .int .i64 next] w fun e w' => ∃ v', e = .returned (.tuple #[v', .int .i64 (freshN H key value next)]) ∧ Own w' w.heap.size w'.heap.size v' (freshH H key value next) ∧ Below w.heap.size w w' := by
  have R : Hid (Rd w hi v H) := r
  obtain ⟨a, cap, rfl⟩ := r.form
  have hl := r.len
  clear r
  by_cases hok : heapOk H
  · have HK : Hid (decide (heapOk H) = true) := decide_eq_true hok
    have h1 := hok.1.1
    have h2 : H.length ≤ 1048576 := by have := hok.1.2; omega
    by_cases hf : freshOk H key value next
    · have HF : Hid (decide (heapOk (H ++ [cell key value next])) = true) := decide_eq_true hf
      have eN : Hid (freshN H key value next = (H.length : Int)) := by unfold Hid freshN; rw [if_pos hok, if_pos hf]
      have eH : Hid (freshH H key value next = H ++ [cell key value next]) := by unfold Hid freshH; rw [if_pos hok, if_pos hf]
      rw [eN.out, eH.out]
      clear hok hf
      have m1 : Hid True := trivial
      go_enter Try.func137, Try.ntmps137
      go_wp2_with (first | (clear m1; go_at_call 47; refine (implHeapOk_any H _ hi _ hh R.out).mono ?_; rintro e w1 ⟨rfl, hB1⟩; rw [HK.out]) | (go_at_call 138; refine (with_any H (cell key value next) _ hi _ (by have := hB1.size; omega) (R.out.below hB1 hh) h1 h2).mono ?_; rintro e w2 ⟨v2, rfl, hO2, hB2⟩) | (go_at_call 47; refine (implHeapOk_any (H ++ [cell key value next]) _ w2.heap.size _ (Nat.le_refl _) hO2.rd).mono ?_; rintro e w3 ⟨rfl, hB3⟩; rw [HF.out]) | (fail))
      go_ret2
      have z1 := hB1.size
      have z2 := hB2.size
      have z3 := hB3.size
      exact ⟨_, rfl, (hO2.below hB3 (Nat.le_refl _)).wide z1 z3, (hB1.trans (hB2.mono z1)).trans (hB3.mono (by omega))⟩
    · have HF : Hid (decide (heapOk (H ++ [cell key value next])) = false) := decide_eq_false hf
      have eN : Hid (freshN H key value next = -1) := by unfold Hid freshN; rw [if_pos hok, if_neg hf]
      have eH : Hid (freshH H key value next = H) := by unfold Hid freshH; rw [if_pos hok, if_neg hf]
      rw [eN.out, eH.out]
      clear hok hf
      have m1 : Hid True := trivial
      go_enter Try.func137, Try.ntmps137
      go_wp2_with (first | (clear m1; go_at_call 47; refine (implHeapOk_any H _ hi _ hh R.out).mono ?_; rintro e w1 ⟨rfl, hB1⟩; rw [HK.out]) | (go_at_call 138; refine (with_any H (cell key value next) _ hi _ (by have := hB1.size; omega) (R.out.below hB1 hh) h1 h2).mono ?_; rintro e w2 ⟨v2, rfl, hO2, hB2⟩) | (go_at_call 47; refine (implHeapOk_any (H ++ [cell key value next]) _ w2.heap.size _ (Nat.le_refl _) hO2.rd).mono ?_; rintro e w3 ⟨rfl, hB3⟩; rw [HF.out]) | (go_at_call 88; refine (copied_any H _ hi _ (by have := hB1.size; have := hB2.size; have := hB3.size; omega) (((R.out.below hB1 hh).below hB2 (by have := hB1.size; omega)).below hB3 (by have := hB1.size; have := hB2.size; omega)) h1 h2).mono ?_; rintro e w4 ⟨v4, rfl, hO4, hB4⟩) | (fail))
      go_ret2
      have z1 := hB1.size
      have z2 := hB2.size
      have z3 := hB3.size
      exact ⟨_, rfl, hO4.wide (by omega) (Nat.le_refl _), ((hB1.trans (hB2.mono z1)).trans (hB3.mono (by omega))).trans (hB4.mono (by omega))⟩
  · have HK : Hid (decide (heapOk H) = false) := decide_eq_false hok
    have eN : Hid (freshN H key value next = -1) := by unfold Hid freshN; rw [if_neg hok]
    have eH : Hid (freshH H key value next = []) := by unfold Hid freshH; rw [if_neg hok]
    rw [eN.out, eH.out]
    go_enter Try.func137, Try.ntmps137
    go_wp2_with (first | (go_at_call 47; refine (implHeapOk_any H _ hi _ hh R.out).mono ?_; rintro e w1 ⟨rfl, hB1⟩; rw [HK.out]) | (fail))
    go_ret2
    exact ⟨_, rfl, own_none _ _ _, hB1⟩

theorem specFresh_any (H : List C) (key value next : Int) (v : Value) (hi : Nat) (w : World) (hh : hi ≤ w.heap.size) (r : Rd w hi v H) :
    Calls Try.prog 108 #[v, .int .i64 key, .int .i64 value, .int .i64 next] w fun e w' => ∃ v', e = .returned (.tuple #[v', .int .i64 (freshN H key value next)]) ∧ Own w' w.heap.size w'.heap.size v' (freshH H key value next) ∧ Below w.heap.size w w' := by
  have R : Hid (Rd w hi v H) := r
  obtain ⟨a, cap, rfl⟩ := r.form
  have hl := r.len
  clear r
  have m1 : Hid True := trivial
  have m2 : Hid True := trivial
  by_cases hok : heapOk H
  · have HK : Hid (decide (heapOk H) = true) := decide_eq_true hok
    have h1 := hok.1.1
    have h2 : H.length ≤ 1048576 := by have := hok.1.2; omega
    have h3 : H.length + 1 ≤ 1048576 := by have := hok.1.2; omega
    by_cases hf : freshOk H key value next
    · have HF : Hid (decide (heapOk (H ++ [cell key value next])) = true) := decide_eq_true hf
      have eN : Hid (freshN H key value next = (H.length : Int)) := by unfold Hid freshN; rw [if_pos hok, if_pos hf]
      have eH : Hid (freshH H key value next = H ++ [cell key value next]) := by unfold Hid freshH; rw [if_pos hok, if_pos hf]
      rw [eN.out, eH.out]
      clear hok hf
      go_enter Try.func108, Try.ntmps108
      go_wp2_with (first | (clear m1; go_at_call 38; refine (specHeapOk_any H _ hi _ hh R.out).mono ?_; rintro e w1 ⟨rfl, hB1⟩; rw [HK.out]) | (clear m2; go_at_call 87; refine (l3Copy_any H _ hi _ (by have := hB1.size; omega) (R.out.below hB1 hh) h1 h2).mono ?_; rintro e w2 ⟨v2, rfl, hO2, hB2⟩; obtain ⟨g2, cap2, rfl, -, -, -⟩ := hO2.form h1) | (at_builtin; refine wpList_append_c rfl _ _ 28 rfl Try.underlying28 w1.heap.size w2.heap.size _ H rfl (hO2.below ((Below.refl _ w2).alloc (Nat.le_refl _) _) (Nat.le_refl _)) (by have := hB2.size; simp; omega) w2.heap.size 0 1 1 [cell key value next] rfl rfl (lit_range w2 (cell key value next)) h3 ?_; intro v3 w3 hO3 hB3; obtain ⟨g3, cap3, rfl, -, -, -⟩ := hO3.form (by simp); rw [snoc_len] at hO3 ⊢; have z1 := hB1.size; have z2 := hB2.size; have hBw : Below w.heap.size w w3 := ((hB1.trans (hB2.mono z1)).trans ((Below.refl _ w2).alloc (by omega) _)).trans (hB3.mono z1); have z3 := hBw.size; have z3' : w1.heap.size ≤ w3.heap.size := (by have := hB3.size; simp at this; omega)) | (go_at_call 38; refine (specHeapOk_any (H ++ [cell key value next]) _ w3.heap.size _ (Nat.le_refl _) hO3.rd).mono ?_; rintro e w4 ⟨rfl, hB4⟩; rw [HF.out]; have z4 := hB4.size) | (fail))
      go_ret2
      exact ⟨_, rfl, (hO3.below hB4 (Nat.le_refl _)).wide z1 z4, hBw.trans (hB4.mono (by omega))⟩
    · have HF : Hid (decide (heapOk (H ++ [cell key value next])) = false) := decide_eq_false hf
      have eN : Hid (freshN H key value next = -1) := by unfold Hid freshN; rw [if_pos hok, if_neg hf]
      have eH : Hid (freshH H key value next = H) := by unfold Hid freshH; rw [if_pos hok, if_neg hf]
      rw [eN.out, eH.out]
      clear hok hf
      go_enter Try.func108, Try.ntmps108
      go_wp2_with (first | (clear m1; go_at_call 38; refine (specHeapOk_any H _ hi _ hh R.out).mono ?_; rintro e w1 ⟨rfl, hB1⟩; rw [HK.out]) | (clear m2; go_at_call 87; refine (l3Copy_any H _ hi _ (by have := hB1.size; omega) (R.out.below hB1 hh) h1 h2).mono ?_; rintro e w2 ⟨v2, rfl, hO2, hB2⟩; obtain ⟨g2, cap2, rfl, -, -, -⟩ := hO2.form h1) | (at_builtin; refine wpList_append_c rfl _ _ 28 rfl Try.underlying28 w1.heap.size w2.heap.size _ H rfl (hO2.below ((Below.refl _ w2).alloc (Nat.le_refl _) _) (Nat.le_refl _)) (by have := hB2.size; simp; omega) w2.heap.size 0 1 1 [cell key value next] rfl rfl (lit_range w2 (cell key value next)) h3 ?_; intro v3 w3 hO3 hB3; obtain ⟨g3, cap3, rfl, -, -, -⟩ := hO3.form (by simp); rw [snoc_len] at hO3 ⊢; have z1 := hB1.size; have z2 := hB2.size; have hBw : Below w.heap.size w w3 := ((hB1.trans (hB2.mono z1)).trans ((Below.refl _ w2).alloc (by omega) _)).trans (hB3.mono z1); have z3 := hBw.size; have z3' : w1.heap.size ≤ w3.heap.size := (by have := hB3.size; simp at this; omega)) | (go_at_call 38; refine (specHeapOk_any (H ++ [cell key value next]) _ w3.heap.size _ (Nat.le_refl _) hO3.rd).mono ?_; rintro e w4 ⟨rfl, hB4⟩; rw [HF.out]; have z4 := hB4.size) | (go_at_call 87; refine (l3Copy_any H _ hi _ (by omega) ((R.out.below hBw (by omega)).below hB4 (by omega)) h1 h2).mono ?_; rintro e w5 ⟨v5, rfl, hO5, hB5⟩) | (fail))
      go_ret2
      exact ⟨_, rfl, hO5.wide (by omega) (Nat.le_refl _), (hBw.trans (hB4.mono (by omega))).trans (hB5.mono (by omega))⟩
  · have HK : Hid (decide (heapOk H) = false) := decide_eq_false hok
    have eN : Hid (freshN H key value next = -1) := by unfold Hid freshN; rw [if_neg hok]
    have eH : Hid (freshH H key value next = []) := by unfold Hid freshH; rw [if_neg hok]
    rw [eN.out, eH.out]
    go_enter Try.func108, Try.ntmps108
    go_wp2_with (first | (clear m1; go_at_call 38; refine (specHeapOk_any H _ hi _ hh R.out).mono ?_; rintro e w1 ⟨rfl, hB1⟩; rw [HK.out]) | (fail))
    go_ret2
    exact ⟨_, rfl, (own_empty w1).wide hB1.size (by simp), hB1.trans ((Below.refl _ w1).alloc hB1.size _)⟩

theorem implSwapped_any (H : List C) (p next to : Int) (v : Value) (hi : Nat) (w : World) (hh : hi ≤ w.heap.size) (r : Rd w hi v H) :
    Calls Try.prog 131 #[v, .int .i64 p, .int .i64 next, .int .i64 to] w fun e w' => ∃ v', e = .returned (.tuple #[v', .bool (swappedB H p next to)]) ∧ Own w' w.heap.size w'.heap.size v' (swappedH H p next to) ∧ Below w.heap.size w w' := by
  have R : Hid (Rd w hi v H) := r
  obtain ⟨a, cap, rfl⟩ := r.form
  have hl := r.len
  clear r
  by_cases hok : heapOk H
  · have HK : Hid (decide (heapOk H) = true) := decide_eq_true hok
    have h1 := hok.1.1
    have h2 : H.length ≤ 1048576 := by have := hok.1.2; omega
    have eN : Hid (swappedB H p next to = decide (swapOk H p next to)) := by unfold Hid swappedB; rw [if_pos hok]
    have eH : Hid (swappedH H p next to = swap1 H p next to) := by unfold Hid swappedH; rw [if_pos hok]
    rw [eN.out, eH.out]
    clear hok
    by_cases hst : stands H p next
    · have HS : Hid (decide (stands H p next) = true) := decide_eq_true hst
      obtain ⟨i, rfl⟩ : ∃ i : Nat, p = i := ⟨p.toNat, by have := hst.1.1; omega⟩
      have hil : i < H.length := by have := hst.1.2; omega
      have hil' : (i : Int) < H.length := by omega
      have en : Hid (nth H (i : Int) = H[i]) := nth_nat H i hil
      obtain ⟨k, hk⟩ := hid_ex (H[i]).key
      by_cases hle : leads H k to
      · have HL : Hid (decide (leads H k to) = true) := decide_eq_true hle
        have hyes : swapOk H (i : Int) next to := ⟨hst, by rw [en.out, hk.out]; exact hle⟩
        rw [(swap_yes hyes).1, (swap_yes hyes).2]
        clear hyes hst hle
        go_enter Try.func131, Try.ntmps131
        go_wp2_with (first | (go_at_call 47; refine (implHeapOk_any H _ hi _ hh R.out).mono ?_; rintro e w1 ⟨rfl, hB1⟩; rw [HK.out]) | (go_at_call 88; refine (copied_any H _ hi _ (by have := hB1.size; omega) (R.out.below hB1 hh) h1 h2).mono ?_; rintro e w2 ⟨v2, rfl, hO2, hB2⟩; obtain ⟨g2, cap2, rfl, hg1, hg2, -⟩ := hO2.form h1; obtain ⟨d0, -, d2, -⟩ := hO2.cell i hil; rw [hk.out] at d0; have df := hO2.frozen (i * 4 + 2)) | (go_at_call 135; refine (stands_any H (i : Int) next _ _ _ hO2.rd).mono ?_; rintro e wq ⟨rfl, hq⟩; subst wq; rw [HS.out]) | (go_at_call 95; refine (leads_any H k to _ _ _ hO2.rd).mono ?_; rintro e wq ⟨rfl, hq⟩; subst wq; rw [HL.out]) | (fail))
        go_ret2
        have z1 := hB1.size
        exact ⟨_, rfl, (hO2.setNext i hil to).wide z1 (by simp), (hB1.trans (hB2.mono z1)).setCell (by show w.heap.size ≤ g2; omega) _⟩
      · have HL : Hid (decide (leads H k to) = false) := decide_eq_false hle
        have hno : ¬ swapOk H (i : Int) next to := fun q => hle (by have := q.2; rw [en.out, hk.out] at this; exact this)
        rw [(swap_no hno).1, (swap_no hno).2]
        clear hno hst hle
        go_enter Try.func131, Try.ntmps131
        go_wp2_with (first | (go_at_call 47; refine (implHeapOk_any H _ hi _ hh R.out).mono ?_; rintro e w1 ⟨rfl, hB1⟩; rw [HK.out]) | (go_at_call 88; refine (copied_any H _ hi _ (by have := hB1.size; omega) (R.out.below hB1 hh) h1 h2).mono ?_; rintro e w2 ⟨v2, rfl, hO2, hB2⟩; obtain ⟨g2, cap2, rfl, hg1, hg2, -⟩ := hO2.form h1; obtain ⟨d0, -, d2, -⟩ := hO2.cell i hil; rw [hk.out] at d0) | (go_at_call 135; refine (stands_any H (i : Int) next _ _ _ hO2.rd).mono ?_; rintro e wq ⟨rfl, hq⟩; subst wq; rw [HS.out]) | (go_at_call 95; refine (leads_any H k to _ _ _ hO2.rd).mono ?_; rintro e wq ⟨rfl, hq⟩; subst wq; rw [HL.out]) | (fail))
        go_ret2
        have z1 := hB1.size
        exact ⟨_, rfl, hO2.wide z1 (Nat.le_refl _), hB1.trans (hB2.mono z1)⟩
    · have HS : Hid (decide (stands H p next) = false) := decide_eq_false hst
      have hno : ¬ swapOk H p next to := fun q => hst q.1
      rw [(swap_no hno).1, (swap_no hno).2]
      clear hno hst
      go_enter Try.func131, Try.ntmps131
      go_wp2_with (first | (go_at_call 47; refine (implHeapOk_any H _ hi _ hh R.out).mono ?_; rintro e w1 ⟨rfl, hB1⟩; rw [HK.out]) | (go_at_call 88; refine (copied_any H _ hi _ (by have := hB1.size; omega) (R.out.below hB1 hh) h1 h2).mono ?_; rintro e w2 ⟨v2, rfl, hO2, hB2⟩; obtain ⟨g2, cap2, rfl, hg1, hg2, -⟩ := hO2.form h1) | (go_at_call 135; refine (stands_any H p next _ _ _ hO2.rd).mono ?_; rintro e wq ⟨rfl, hq⟩; subst wq; rw [HS.out]) | (fail))
      go_ret2
      have z1 := hB1.size
      exact ⟨_, rfl, hO2.wide z1 (Nat.le_refl _), hB1.trans (hB2.mono z1)⟩
  · have HK : Hid (decide (heapOk H) = false) := decide_eq_false hok
    have eN : Hid (swappedB H p next to = false) := by unfold Hid swappedB; rw [if_neg hok]
    have eH : Hid (swappedH H p next to = []) := by unfold Hid swappedH; rw [if_neg hok]
    rw [eN.out, eH.out]
    go_enter Try.func131, Try.ntmps131
    go_wp2_with (first | (go_at_call 47; refine (implHeapOk_any H _ hi _ hh R.out).mono ?_; rintro e w1 ⟨rfl, hB1⟩; rw [HK.out]) | (fail))
    go_ret2
    exact ⟨_, rfl, own_none _ _ _, hB1⟩

theorem implStruck_any (H : List C) (p next : Int) (v : Value) (hi : Nat) (w : World) (hh : hi ≤ w.heap.size) (r : Rd w hi v H) :
    Calls Try.prog 133 #[v, .int .i64 p, .int .i64 next] w fun e w' => ∃ v', e = .returned (.tuple #[v', .bool (struckB H p next)]) ∧ Own w' w.heap.size w'.heap.size v' (struckH H p next) ∧ Below w.heap.size w w' := by
  have R : Hid (Rd w hi v H) := r
  obtain ⟨a, cap, rfl⟩ := r.form
  have hl := r.len
  clear r
  by_cases hok : heapOk H
  · have HK : Hid (decide (heapOk H) = true) := decide_eq_true hok
    have h1 := hok.1.1
    have h2 : H.length ≤ 1048576 := by have := hok.1.2; omega
    have eN : Hid (struckB H p next = decide (strikeOk H p next)) := by unfold Hid struckB; rw [if_pos hok]
    have eH : Hid (struckH H p next = strike1 H p next) := by unfold Hid struckH; rw [if_pos hok]
    rw [eN.out, eH.out]
    clear hok
    by_cases hp0 : p = 0
    · subst hp0
      have hno : ¬ strikeOk H 0 next := fun q => q.1 rfl
      rw [(strike_no hno).1, (strike_no hno).2]
      clear hno
      go_enter Try.func133, Try.ntmps133
      go_wp2_with (first | (go_at_call 47; refine (implHeapOk_any H _ hi _ hh R.out).mono ?_; rintro e w1 ⟨rfl, hB1⟩; rw [HK.out]) | (go_at_call 88; refine (copied_any H _ hi _ (by have := hB1.size; omega) (R.out.below hB1 hh) h1 h2).mono ?_; rintro e w2 ⟨v2, rfl, hO2, hB2⟩; obtain ⟨g2, cap2, rfl, hg1, hg2, -⟩ := hO2.form h1) | (fail))
      go_ret2
      have z1 := hB1.size
      exact ⟨_, rfl, hO2.wide z1 (Nat.le_refl _), hB1.trans (hB2.mono z1)⟩
    have hpf : (p == 0) = false := by simpa using hp0
    by_cases hst : stands H p next
    · have HS : Hid (decide (stands H p next) = true) := decide_eq_true hst
      have hyes : strikeOk H p next := ⟨hp0, hst⟩
      rw [(strike_yes hyes).1, (strike_yes hyes).2]
      obtain ⟨i, rfl⟩ : ∃ i : Nat, p = i := ⟨p.toNat, by have := hst.1.1; omega⟩
      have hil : i < H.length := by have := hst.1.2; omega
      have hil' : (i : Int) < H.length := by omega
      clear hyes hst
      go_enter Try.func133, Try.ntmps133
      go_wp2_with (first | (go_at_call 47; refine (implHeapOk_any H _ hi _ hh R.out).mono ?_; rintro e w1 ⟨rfl, hB1⟩; rw [HK.out]) | (go_at_call 88; refine (copied_any H _ hi _ (by have := hB1.size; omega) (R.out.below hB1 hh) h1 h2).mono ?_; rintro e w2 ⟨v2, rfl, hO2, hB2⟩; obtain ⟨g2, cap2, rfl, hg1, hg2, -⟩ := hO2.form h1; obtain ⟨-, -, -, d3⟩ := hO2.cell i hil; have df := hO2.frozen (i * 4 + 3)) | (go_at_call 135; refine (stands_any H (i : Int) next _ _ _ hO2.rd).mono ?_; rintro e wq ⟨rfl, hq⟩; subst wq; rw [HS.out]) | (fail))
      go_ret2
      have z1 := hB1.size
      exact ⟨_, rfl, (hO2.setGone i hil).wide z1 (by simp), (hB1.trans (hB2.mono z1)).setCell (by show w.heap.size ≤ g2; omega) _⟩
    · have HS : Hid (decide (stands H p next) = false) := decide_eq_false hst
      have hno : ¬ strikeOk H p next := fun q => hst q.2
      rw [(strike_no hno).1, (strike_no hno).2]
      clear hno hst
      go_enter Try.func133, Try.ntmps133
      go_wp2_with (first | (go_at_call 47; refine (implHeapOk_any H _ hi _ hh R.out).mono ?_; rintro e w1 ⟨rfl, hB1⟩; rw [HK.out]) | (go_at_call 88; refine (copied_any H _ hi _ (by have := hB1.size; omega) (R.out.below hB1 hh) h1 h2).mono ?_; rintro e w2 ⟨v2, rfl, hO2, hB2⟩; obtain ⟨g2, cap2, rfl, hg1, hg2, -⟩ := hO2.form h1) | (go_at_call 135; refine (stands_any H p next _ _ _ hO2.rd).mono ?_; rintro e wq ⟨rfl, hq⟩; subst wq; rw [HS.out]) | (fail))
      go_ret2
      have z1 := hB1.size
      exact ⟨_, rfl, hO2.wide z1 (Nat.le_refl _), hB1.trans (hB2.mono z1)⟩
  · have HK : Hid (decide (heapOk H) = false) := decide_eq_false hok
    have eN : Hid (struckB H p next = false) := by unfold Hid struckB; rw [if_neg hok]
    have eH : Hid (struckH H p next = []) := by unfold Hid struckH; rw [if_neg hok]
    rw [eN.out, eH.out]
    go_enter Try.func133, Try.ntmps133
    go_wp2_with (first | (go_at_call 47; refine (implHeapOk_any H _ hi _ hh R.out).mono ?_; rintro e w1 ⟨rfl, hB1⟩; rw [HK.out]) | (fail))
    go_ret2
    exact ⟨_, rfl, own_none _ _ _, hB1⟩

end Go.Proofs.Ythjkhghlhjndmaa.ce
/- A hand in memory, and the model's two functions that end its step or begin anew. -/
namespace Go.Proofs.Ythjkhghlhjndmaa.ce
open Go.ChangeShapes Go.WideShapes Go.ChangeAt Go.RowKit
set_option linter.unusedVariables false

structure Hd where
  kind : Int
  key : Int
  value : Int
  step : Int
  left : Int
  here : Int
  own : Int
  told : Int
def hv (d : Hd) : List Value := [.int .i64 d.kind, .int .i64 d.key, .int .i64 d.value, .int .i64 d.step, .int .i64 d.left, .int .i64 d.here, .int .i64 d.own, .int .i64 d.told]
/-- the hand d lies in block q -/
structure HB (w : World) (q : Nat) (d : Hd) : Prop where
  blk : VBlk w q 58 (hv d)
theorem HB.cells {w : World} {q : Nat} {k x y s l h o t : Int} (b : HB w q ⟨k, x, y, s, l, h, o, t⟩) :
    w.cell? ⟨q, 0, none⟩ = some (.int .i64 k) ∧ w.cell? ⟨q, 1, none⟩ = some (.int .i64 x) ∧ w.cell? ⟨q, 2, none⟩ = some (.int .i64 y) ∧ w.cell? ⟨q, 3, none⟩ = some (.int .i64 s) ∧ w.cell? ⟨q, 4, none⟩ = some (.int .i64 l) ∧ w.cell? ⟨q, 5, none⟩ = some (.int .i64 h) ∧ w.cell? ⟨q, 6, none⟩ = some (.int .i64 o) ∧ w.cell? ⟨q, 7, none⟩ = some (.int .i64 t) :=
  ⟨b.blk.cell 0 (by simp [hv]), b.blk.cell 1 (by simp [hv]), b.blk.cell 2 (by simp [hv]), b.blk.cell 3 (by simp [hv]), b.blk.cell 4 (by simp [hv]), b.blk.cell 5 (by simp [hv]), b.blk.cell 6 (by simp [hv]), b.blk.cell 7 (by simp [hv])⟩
theorem HB.fz {w : World} {q : Nat} {d : Hd} (b : HB w q d) :
    w.frozen? ⟨q, 0, none⟩ = false ∧ w.frozen? ⟨q, 1, none⟩ = false ∧ w.frozen? ⟨q, 2, none⟩ = false ∧ w.frozen? ⟨q, 3, none⟩ = false ∧ w.frozen? ⟨q, 4, none⟩ = false ∧ w.frozen? ⟨q, 5, none⟩ = false ∧ w.frozen? ⟨q, 6, none⟩ = false ∧ w.frozen? ⟨q, 7, none⟩ = false :=
  ⟨b.blk.frozen _, b.blk.frozen _, b.blk.frozen _, b.blk.frozen _, b.blk.frozen _, b.blk.frozen _, b.blk.frozen _, b.blk.frozen _⟩
theorem HB.set {w : World} {q : Nat} {d : Hd} (b : HB w q d) (j : Nat) (z : Int) (d' : Hd) (h : (hv d).set j (.int .i64 z) = hv d') : HB (w.setCell ⟨q, j, none⟩ (.int .i64 z)) q d' := ⟨by rw [← h]; exact b.blk.set j _⟩
theorem HB.of {w w' : World} {q : Nat} {d : Hd} (b : HB w q d) (e : w'.heap[q]? = w.heap[q]?) : HB w' q d := ⟨b.blk.of e⟩
theorem HB.lt {w : World} {q : Nat} {d : Hd} (b : HB w q d) : q < w.heap.size := b.blk.lt

theorem only_set (w : World) (b j : Nat) (u : Value) : Only b w (w.setCell ⟨b, j, none⟩ u) := ⟨by simp, fun k hk => Below.heap_setCell _ _ _ _ hk, fun B hB => (Below.refl _ _).setCell hB _⟩
theorem Only.trans {b : Nat} {x y z : World} (h : Only b x y) (k : Only b y z) : Only b x z := ⟨k.1.trans h.1, fun j hj => (k.2.1 j hj).trans (h.2.1 j hj), fun B hB => (h.2.2 B hB).trans (k.2.2 B hB)⟩
/-- of the blocks under lo only q may be turned -/
structure Mv (lo q : Nat) (w w' : World) : Prop where
  os : w'.os = w.os
  tape : w'.tape = w.tape
  output : w'.output = w.output
  size : w.heap.size ≤ w'.heap.size
  block : ∀ k, k < lo → k ≠ q → w'.heap[k]? = w.heap[k]?
theorem Mv.refl (lo q : Nat) (w : World) : Mv lo q w w := ⟨rfl, rfl, rfl, Nat.le_refl _, fun _ _ _ => rfl⟩
theorem Mv.trans {lo q : Nat} {a b c : World} (h : Mv lo q a b) (k : Mv lo q b c) : Mv lo q a c := ⟨k.os.trans h.os, k.tape.trans h.tape, k.output.trans h.output, Nat.le_trans h.size k.size, fun j h1 h2 => (k.block j h1 h2).trans (h.block j h1 h2)⟩
theorem Mv.of_below {lo q B : Nat} {w w' : World} (h : Below B w w') (hB : lo ≤ B) : Mv lo q w w' := ⟨h.os, h.tape, h.output, h.size, fun k hk _ => h.block k (by omega)⟩
theorem Mv.of_within {lo q hi lo' : Nat} {w w' : World} (h : Within lo hi w w') (hl : lo' ≤ lo) (hs : lo' ≤ w.heap.size) : Mv lo' q w w' := ⟨h.os, h.tape, h.output, h.size, fun k hk _ => h.block k (by omega) (by omega)⟩
theorem Mv.setQ {lo q : Nat} {a w : World} (h : Mv lo q a w) (j : Nat) (u : Value) : Mv lo q a (w.setCell ⟨q, j, none⟩ u) :=
  h.trans ⟨rfl, rfl, rfl, by simp, fun k _ hk => Below.heap_setCell _ _ _ _ hk⟩
theorem Mv.drew {lo q : Nat} {a w : World} (h : Mv lo q a w) : Mv lo q a w.drew := ⟨h.os, h.tape, h.output, h.size, h.block⟩
theorem Mv.drewN {lo q : Nat} {a w : World} (h : Mv lo q a w) (n : Nat) : Mv lo q a (w.drewN n) := ⟨h.os, h.tape, h.output, h.size, h.block⟩
theorem Mv.setG {lo q g : Nat} {a w : World} (h : Mv lo q a w) (hg : lo ≤ g) (j : Nat) (u : Value) : Mv lo q a (w.setCell ⟨g, j, none⟩ u) :=
  h.trans ⟨rfl, rfl, rfl, by simp, fun k hk _ => Below.heap_setCell _ _ _ _ (by show k ≠ g; omega)⟩

theorem Mv.only {lo q : Nat} {a w w' : World} (h : Mv lo q a w) (o : Only q w w') : Mv lo q a w' := by
  have b0 := o.2.2 0 (Nat.zero_le _)
  exact h.trans ⟨b0.os, b0.tape, b0.output, b0.size, fun k _ hk => o.2.1 k hk⟩

theorem l5Start_any (d : Hd) (q : Nat) (w : World) (b : HB w q d) :
    Calls Try.prog 101 #[.pointer (some ⟨q, 0, none⟩)] w fun e w' => e = .returned (.tuple #[]) ∧ HB w' q { d with step := 0, left := -1, here := -1 } ∧ Only q w w' := by
  obtain ⟨k, x, y, s, l, hh, o, t⟩ := d
  obtain ⟨c0, c1, c2, c3, c4, c5, c6, c7⟩ := b.cells
  obtain ⟨f0, f1, f2, f3, f4, f5, f6, f7⟩ := b.fz
  have B : Hid (HB w q ⟨k, x, y, s, l, hh, o, t⟩) := b
  clear b
  go_enter Try.func101, Try.ntmps101
  go_wp2
  go_end0
  exact ⟨rfl, ((B.out.set 3 0 ⟨k, x, y, 0, l, hh, o, t⟩ rfl).set 4 (-1) ⟨k, x, y, 0, -1, hh, o, t⟩ rfl).set 5 (-1) ⟨k, x, y, 0, -1, -1, o, t⟩ rfl, ((only_set w q 3 _).trans (only_set _ q 4 _)).trans (only_set _ q 5 _)⟩
theorem l5Done_any (d : Hd) (yes : Bool) (q : Nat) (w : World) (b : HB w q d) :
    Calls Try.prog 102 #[.pointer (some ⟨q, 0, none⟩), .bool yes] w fun e w' => e = .returned (.tuple #[]) ∧ HB w' q { d with step := 5, left := -1, here := -1, told := if yes then 1 else 2 } ∧ Only q w w' := by
  obtain ⟨k, x, y, s, l, hh, o, t⟩ := d
  obtain ⟨c0, c1, c2, c3, c4, c5, c6, c7⟩ := b.cells
  obtain ⟨f0, f1, f2, f3, f4, f5, f6, f7⟩ := b.fz
  have B : Hid (HB w q ⟨k, x, y, s, l, hh, o, t⟩) := b
  clear b
  cases yes
  · go_enter Try.func102, Try.ntmps102
    go_wp2
    go_end0
    exact ⟨rfl, (((B.out.set 3 5 ⟨k, x, y, 5, l, hh, o, t⟩ rfl).set 4 (-1) ⟨k, x, y, 5, -1, hh, o, t⟩ rfl).set 5 (-1) ⟨k, x, y, 5, -1, -1, o, t⟩ rfl).set 7 2 ⟨k, x, y, 5, -1, -1, o, 2⟩ rfl, (((only_set w q 3 _).trans (only_set _ q 4 _)).trans (only_set _ q 5 _)).trans (only_set _ q 7 _)⟩
  · go_enter Try.func102, Try.ntmps102
    go_wp2
    go_end0
    exact ⟨rfl, ((((B.out.set 3 5 ⟨k, x, y, 5, l, hh, o, t⟩ rfl).set 4 (-1) ⟨k, x, y, 5, -1, hh, o, t⟩ rfl).set 5 (-1) ⟨k, x, y, 5, -1, -1, o, t⟩ rfl).set 7 2 ⟨k, x, y, 5, -1, -1, o, 2⟩ rfl).set 7 1 ⟨k, x, y, 5, -1, -1, o, 1⟩ rfl, ((((only_set w q 3 _).trans (only_set _ q 4 _)).trans (only_set _ q 5 _)).trans (only_set _ q 7 _)).trans (only_set _ q 7 _)⟩

/-! ### what a heap and a hand keep to while cells are put -/
def good (H : List C) : Prop := (1 ≤ H.length ∧ H.length ≤ 40) ∧ ∀ c ∈ H, -1 ≤ c.next ∧ c.next < (H.length : Int)
structure Fits (n : Nat) (d : Hd) : Prop where
  kind : d.kind = 1
  step : d.step = 0 ∨ d.step = 1 ∨ d.step = 2 ∨ d.step = 3 ∨ d.step = 5
  here : -1 ≤ d.here ∧ d.here < (n : Int)
  own : -1 ≤ d.own ∧ d.own < (n : Int)
theorem good_next {H : List C} (h : good H) (i : Nat) (hi : i < H.length) : -1 ≤ (H[i]).next ∧ (H[i]).next < (H.length : Int) := h.2 _ (List.getElem_mem hi)
theorem good_set {H : List C} (h : good H) (i : Nat) (c : C) (hc : -1 ≤ c.next ∧ c.next < (H.length : Int)) : good (H.set i c) := by
  refine ⟨by simpa using h.1, fun x hx => ?_⟩
  rw [List.length_set]
  rcases List.mem_or_eq_of_mem_set hx with hx | rfl
  · exact h.2 x hx
  · exact hc
theorem leads_fit {H : List C} (h1 : 1 ≤ H.length) {key next : Int} (h : leads H key next) : -1 ≤ next ∧ next < (H.length : Int) := by
  rcases h with h | h
  · omega
  · have := h.1.1; have := h.1.2; omega
theorem good_ok {H : List C} (h : heapOk H) : good H := by
  refine ⟨h.1, fun c hc => ?_⟩
  obtain ⟨i, hi, rfl⟩ := List.getElem_of_mem hc
  by_cases e : i = 0
  · subst e
    have := h.2.1.2.2
    have e := nth_nat H 0 hi
    simp only [Int.natCast_zero] at e
    rw [e] at this
    exact leads_fit h.1.1 this
  · have e : H[i] = (H.drop 1)[i - 1]'(by simp; omega) := by rw [List.getElem_drop]; congr 1; omega
    exact leads_fit h.1.1 (h.2.2 H[i] (by rw [e]; exact List.getElem_mem _)).2
theorem good_swap1 {H : List C} (h : good H) (p next to : Int) : good (swap1 H p next to) := by
  unfold swap1
  split
  · rename_i hs
    exact good_set h _ _ (leads_fit h.1.1 hs.2)
  · exact h
theorem nth_fit {H : List C} (h : good H) (p : Int) (hp : has H p) : -1 ≤ (nth H p).next ∧ (nth H p).next < (H.length : Int) := by
  obtain ⟨i, rfl⟩ : ∃ i : Nat, p = i := ⟨p.toNat, by have := hp.1; omega⟩
  have hi : i < H.length := by have := hp.2; omega
  rw [nth_nat H i hi]
  exact good_next h i hi
theorem good_strike1 {H : List C} (h : good H) (p next : Int) : good (strike1 H p next) := by
  unfold strike1
  split
  · rename_i hs
    exact good_set h _ _ (nth_fit h p hs.2.1)
  · exact h
theorem good_swapH {H : List C} (h : good H) (p to : Int) (ht : -1 ≤ to ∧ to < (H.length : Int)) : good (swapH H p to) := good_set h _ _ ht
theorem Fits.le {n n' : Nat} {d : Hd} (h : Fits n d) (hn : n ≤ n') : Fits n' d := ⟨h.kind, h.step, ⟨h.here.1, by have := h.here.2; omega⟩, ⟨h.own.1, by have := h.own.2; omega⟩⟩

/-- heap and hand as they lie while the hand moves -/
structure Mo (w : World) (lo q : Nat) (v : Value) (H : List C) (d : Hd) : Prop where
  own : Own w lo w.heap.size v H
  hand : HB w q d
  qlo : q < lo
  los : lo ≤ w.heap.size
  good : good H
  fits : Fits H.length d
theorem Own.only {w w' : World} {lo hi q : Nat} {v : Value} {H : List C} (o : Own w lo hi v H) (h : Only q w w') (hq : q < lo) : Own w' lo hi v H := o.keep fun k h1 _ => h.2.1 k (by omega)

end Go.Proofs.Ythjkhghlhjndmaa.ce
/- A hand's variable in memory: its size, its zero, filled anew; a function's end that hands a value and such a variable. -/
namespace Go.Proofs.Ythjkhghlhjndmaa.ce
open Go.ChangeShapes Go.WideShapes Go.ChangeAt Go.RowKit
set_option linter.unusedVariables false

theorem sizeH : (Try.prog.info? 58).map (·.size) = some 8 := by kernel_rfl
theorem zeroH (w : World) : (zeroValue 58).run Try.prog w = .ok (.agg (hv ⟨0, 0, 0, 0, 0, 0, 0, 0⟩).toArray) w := Try.zeroValue58 w
theorem hv_one (d : Hd) : ∀ v ∈ hv d, v.oneCell' = true := by
  intro v h
  simp only [hv, List.mem_cons, List.not_mem_nil, or_false] at h
  rcases h with rfl | rfl | rfl | rfl | rfl | rfl | rfl | rfl <;> rfl
theorem results_tmp_cell {fn : Func} {u p : Tmp} {ty : TypeId} (h : fn.results = #[.tmp u, .cell p ty]) (tmps : Array Value) (P : Program) (w : World) :
    (results fn tmps).run P w =
      ((asAddr (tmps.getD p undef)).run P w).andThen fun a w₁ => ((loadVar ty a).run P w₁).andThen fun v w₂ => .ok (.tuple #[tmps.getD u undef, v]) w₂ := by
  simp only [results, h]
  simp [Sem.run_bind, Result.andThen]
theorem row_tmp_cell {fn : Func} {u p : Tmp} {ty : TypeId} (h : fn.results = #[.tmp u, .cell p ty]) {R : Ending → World → Prop} {a : Act} {w : World} {b : Nat} {t : TypeId} {vs : List Value} {fs : Array Field} {x : Value}
    (hx : a.tmps.getD u undef = x) (hp : a.tmps.getD p undef = .pointer (some ⟨b, 0, none⟩)) (hb : VBlk w b t vs) (hu : Try.prog.underlying ty = some (.struct fs))
    (hi : (Try.prog.info? ty).map (·.size) = some vs.length) (hdf : a.defers = []) (hR : R (.returned (.tuple #[x, .agg vs.toArray])) w) : bodyPost Try.prog fn R .ret a w := by
  have hl := run_loadVar_row (P := Try.prog) w b t ty vs.toArray (0, 0) _ hb hu rfl (by rw [hi]; simp)
  refine bodyPost_ret ?_ hdf hR
  rw [results_tmp_cell h, hp, hx]
  simp [asAddr, hl]

theorem HB.drew {w : World} {q : Nat} {d : Hd} (h : HB w q d) : HB w.drew q d := ⟨h.blk.drew⟩
theorem Only.drew {b : Nat} {w w' : World} (h : Only b w w') : Only b w w'.drew := ⟨h.1, h.2.1, fun B hB => (h.2.2 B hB).drew⟩
theorem fill8 {w : World} {b : Nat} {d0 : Hd} (h : HB w b d0) (k x y s l e o t : Int) :
    HB (World.drew (World.setCell (World.setCell (World.setCell (World.setCell (World.setCell (World.setCell (World.setCell (World.setCell w ⟨b, 0, none⟩ (Value.int IntKind.i64 k)) ⟨b, 1, none⟩ (Value.int IntKind.i64 x)) ⟨b, 2, none⟩ (Value.int IntKind.i64 y)) ⟨b, 3, none⟩ (Value.int IntKind.i64 s)) ⟨b, 4, none⟩ (Value.int IntKind.i64 l)) ⟨b, 5, none⟩ (Value.int IntKind.i64 e)) ⟨b, 6, none⟩ (Value.int IntKind.i64 o)) ⟨b, 7, none⟩ (Value.int IntKind.i64 t))) b ⟨k, x, y, s, l, e, o, t⟩ ∧ Only b w (World.drew (World.setCell (World.setCell (World.setCell (World.setCell (World.setCell (World.setCell (World.setCell (World.setCell w ⟨b, 0, none⟩ (Value.int IntKind.i64 k)) ⟨b, 1, none⟩ (Value.int IntKind.i64 x)) ⟨b, 2, none⟩ (Value.int IntKind.i64 y)) ⟨b, 3, none⟩ (Value.int IntKind.i64 s)) ⟨b, 4, none⟩ (Value.int IntKind.i64 l)) ⟨b, 5, none⟩ (Value.int IntKind.i64 e)) ⟨b, 6, none⟩ (Value.int IntKind.i64 o)) ⟨b, 7, none⟩ (Value.int IntKind.i64 t))) := by
  obtain ⟨k0, x0, y0, s0, l0, e0, o0, t0⟩ := d0
  have h0 : HB (World.setCell w ⟨b, 0, none⟩ (Value.int IntKind.i64 k)) b ⟨k, x0, y0, s0, l0, e0, o0, t0⟩ := h.set 0 k _ rfl
  have p0 : Only b w (World.setCell w ⟨b, 0, none⟩ (Value.int IntKind.i64 k)) := only_set w b 0 _
  have h1 : HB (World.setCell (World.setCell w ⟨b, 0, none⟩ (Value.int IntKind.i64 k)) ⟨b, 1, none⟩ (Value.int IntKind.i64 x)) b ⟨k, x, y0, s0, l0, e0, o0, t0⟩ := h0.set 1 x _ rfl
  have p1 : Only b w (World.setCell (World.setCell w ⟨b, 0, none⟩ (Value.int IntKind.i64 k)) ⟨b, 1, none⟩ (Value.int IntKind.i64 x)) := p0.trans (only_set _ b 1 _)
  have h2 : HB (World.setCell (World.setCell (World.setCell w ⟨b, 0, none⟩ (Value.int IntKind.i64 k)) ⟨b, 1, none⟩ (Value.int IntKind.i64 x)) ⟨b, 2, none⟩ (Value.int IntKind.i64 y)) b ⟨k, x, y, s0, l0, e0, o0, t0⟩ := h1.set 2 y _ rfl
  have p2 : Only b w (World.setCell (World.setCell (World.setCell w ⟨b, 0, none⟩ (Value.int IntKind.i64 k)) ⟨b, 1, none⟩ (Value.int IntKind.i64 x)) ⟨b, 2, none⟩ (Value.int IntKind.i64 y)) := p1.trans (only_set _ b 2 _)
  have h3 : HB (World.setCell (World.setCell (World.setCell (World.setCell w ⟨b, 0, none⟩ (Value.int IntKind.i64 k)) ⟨b, 1, none⟩ (Value.int IntKind.i64 x)) ⟨b, 2, none⟩ (Value.int IntKind.i64 y)) ⟨b, 3, none⟩ (Value.int IntKind.i64 s)) b ⟨k, x, y, s, l0, e0, o0, t0⟩ := h2.set 3 s _ rfl
  have p3 : Only b w (World.setCell (World.setCell (World.setCell (World.setCell w ⟨b, 0, none⟩ (Value.int IntKind.i64 k)) ⟨b, 1, none⟩ (Value.int IntKind.i64 x)) ⟨b, 2, none⟩ (Value.int IntKind.i64 y)) ⟨b, 3, none⟩ (Value.int IntKind.i64 s)) := p2.trans (only_set _ b 3 _)
  have h4 : HB (World.setCell (World.setCell (World.setCell (World.setCell (World.setCell w ⟨b, 0, none⟩ (Value.int IntKind.i64 k)) ⟨b, 1, none⟩ (Value.int IntKind.i64 x)) ⟨b, 2, none⟩ (Value.int IntKind.i64 y)) ⟨b, 3, none⟩ (Value.int IntKind.i64 s)) ⟨b, 4, none⟩ (Value.int IntKind.i64 l)) b ⟨k, x, y, s, l, e0, o0, t0⟩ := h3.set 4 l _ rfl
  have p4 : Only b w (World.setCell (World.setCell (World.setCell (World.setCell (World.setCell w ⟨b, 0, none⟩ (Value.int IntKind.i64 k)) ⟨b, 1, none⟩ (Value.int IntKind.i64 x)) ⟨b, 2, none⟩ (Value.int IntKind.i64 y)) ⟨b, 3, none⟩ (Value.int IntKind.i64 s)) ⟨b, 4, none⟩ (Value.int IntKind.i64 l)) := p3.trans (only_set _ b 4 _)
  have h5 : HB (World.setCell (World.setCell (World.setCell (World.setCell (World.setCell (World.setCell w ⟨b, 0, none⟩ (Value.int IntKind.i64 k)) ⟨b, 1, none⟩ (Value.int IntKind.i64 x)) ⟨b, 2, none⟩ (Value.int IntKind.i64 y)) ⟨b, 3, none⟩ (Value.int IntKind.i64 s)) ⟨b, 4, none⟩ (Value.int IntKind.i64 l)) ⟨b, 5, none⟩ (Value.int IntKind.i64 e)) b ⟨k, x, y, s, l, e, o0, t0⟩ := h4.set 5 e _ rfl
  have p5 : Only b w (World.setCell (World.setCell (World.setCell (World.setCell (World.setCell (World.setCell w ⟨b, 0, none⟩ (Value.int IntKind.i64 k)) ⟨b, 1, none⟩ (Value.int IntKind.i64 x)) ⟨b, 2, none⟩ (Value.int IntKind.i64 y)) ⟨b, 3, none⟩ (Value.int IntKind.i64 s)) ⟨b, 4, none⟩ (Value.int IntKind.i64 l)) ⟨b, 5, none⟩ (Value.int IntKind.i64 e)) := p4.trans (only_set _ b 5 _)
  have h6 : HB (World.setCell (World.setCell (World.setCell (World.setCell (World.setCell (World.setCell (World.setCell w ⟨b, 0, none⟩ (Value.int IntKind.i64 k)) ⟨b, 1, none⟩ (Value.int IntKind.i64 x)) ⟨b, 2, none⟩ (Value.int IntKind.i64 y)) ⟨b, 3, none⟩ (Value.int IntKind.i64 s)) ⟨b, 4, none⟩ (Value.int IntKind.i64 l)) ⟨b, 5, none⟩ (Value.int IntKind.i64 e)) ⟨b, 6, none⟩ (Value.int IntKind.i64 o)) b ⟨k, x, y, s, l, e, o, t0⟩ := h5.set 6 o _ rfl
  have p6 : Only b w (World.setCell (World.setCell (World.setCell (World.setCell (World.setCell (World.setCell (World.setCell w ⟨b, 0, none⟩ (Value.int IntKind.i64 k)) ⟨b, 1, none⟩ (Value.int IntKind.i64 x)) ⟨b, 2, none⟩ (Value.int IntKind.i64 y)) ⟨b, 3, none⟩ (Value.int IntKind.i64 s)) ⟨b, 4, none⟩ (Value.int IntKind.i64 l)) ⟨b, 5, none⟩ (Value.int IntKind.i64 e)) ⟨b, 6, none⟩ (Value.int IntKind.i64 o)) := p5.trans (only_set _ b 6 _)
  have h7 : HB (World.setCell (World.setCell (World.setCell (World.setCell (World.setCell (World.setCell (World.setCell (World.setCell w ⟨b, 0, none⟩ (Value.int IntKind.i64 k)) ⟨b, 1, none⟩ (Value.int IntKind.i64 x)) ⟨b, 2, none⟩ (Value.int IntKind.i64 y)) ⟨b, 3, none⟩ (Value.int IntKind.i64 s)) ⟨b, 4, none⟩ (Value.int IntKind.i64 l)) ⟨b, 5, none⟩ (Value.int IntKind.i64 e)) ⟨b, 6, none⟩ (Value.int IntKind.i64 o)) ⟨b, 7, none⟩ (Value.int IntKind.i64 t)) b ⟨k, x, y, s, l, e, o, t⟩ := h6.set 7 t _ rfl
  have p7 : Only b w (World.setCell (World.setCell (World.setCell (World.setCell (World.setCell (World.setCell (World.setCell (World.setCell w ⟨b, 0, none⟩ (Value.int IntKind.i64 k)) ⟨b, 1, none⟩ (Value.int IntKind.i64 x)) ⟨b, 2, none⟩ (Value.int IntKind.i64 y)) ⟨b, 3, none⟩ (Value.int IntKind.i64 s)) ⟨b, 4, none⟩ (Value.int IntKind.i64 l)) ⟨b, 5, none⟩ (Value.int IntKind.i64 e)) ⟨b, 6, none⟩ (Value.int IntKind.i64 o)) ⟨b, 7, none⟩ (Value.int IntKind.i64 t)) := p6.trans (only_set _ b 7 _)
  exact ⟨h7.drew, p7.drew⟩
theorem Mv.below {lo q B : Nat} {w w' : World} (h : Mv lo q w w') (h1 : B ≤ lo) (h2 : B ≤ q) : Below B w w' := ⟨h.os, h.tape, h.output, h.size, fun k hk => h.block k (by omega) (by omega)⟩
end Go.Proofs.Ythjkhghlhjndmaa.ce
/- Contracts of the laws' helpers on cells: sizes, copies, comparisons, marks. -/
namespace Go.Proofs.Ythjkhghlhjndmaa.ce
open Go.ChangeShapes Go.WideShapes Go.ChangeAt Go.RowKit
set_option linter.unusedVariables false

theorem szCells (a : Option Addr) (n c : Nat) (hn : n ≤ 9223372036854775807) (w : World) :
    Calls Try.prog 44 #[.slice a n c, .int .i64 1048576] w fun e w' => ∃ r : Int, e = .returned (.int .i64 r) ∧ w' = w ∧ (0 ≤ r → n ≤ 1048576) := by
  by_cases h : (n : Int) ≤ 1048576
  · have e : Hid (wrap64 (1048576 - (n : Int)) = 1048576 - n) := IntWalk.wrap64_in _ ⟨by omega, by omega⟩
    go_enter Try.func44, Try.ntmps44
    go_wp2
    go_ret
    exact ⟨_, rfl, rfl, fun _ => by omega⟩
  · go_enter Try.func44, Try.ntmps44
    go_wp2
    go_ret
    exact ⟨-1, rfl, rfl, fun _ => by omega⟩

theorem sizeLC : (Try.prog.info? 100).map (·.size) = some 4 := by kernel_rfl

theorem toCell_any (c : C) (w : World) :
    Calls Try.prog 77 #[.agg (cv c).toArray] w fun e w' => e = .returned (.agg (cv c).toArray) ∧ Below w.heap.size w w' := by
  obtain ⟨k, x, n, g⟩ := c
  show Calls Try.prog 77 #[.agg #[.int .i64 k, .int .i64 x, .int .i64 n, .bool g]] w _
  go_enter Try.func77, Try.ntmps77
  go_wp2
  have h1 : VBlk ((w.alloc (.cells #[.int .i64 k, .int .i64 x, .int .i64 n, .bool g] 100)).alloc (.cells #[.int .i64 k, .int .i64 x, .int .i64 n, .bool g] 97)) (w.heap.size + 1) 97 [.int .i64 k, .int .i64 x, .int .i64 n, .bool g] := by
    have := heap_alloc_new (w.alloc (.cells #[.int .i64 k, .int .i64 x, .int .i64 n, .bool g] 100)) (.cells #[.int .i64 k, .int .i64 x, .int .i64 n, .bool g] 97)
    simpa [VBlk] using this
  refine row_retv rfl rfl (h1.of (Below.heap_alloc _ _ _ h1.lt)) Try.underlying97 sizeC rfl ⟨rfl, ?_⟩
  exact (((Below.refl _ w).alloc (Nat.le_refl _) _).alloc (by simp) _).alloc (by simp <;> omega) _

theorem eqCell_any (c : C) (w : World) :
    Calls Try.prog 86 #[.agg (cv c).toArray, .agg (cv c).toArray] w fun e w' => e = .returned (.bool true) ∧ Below w.heap.size w w' := by
  obtain ⟨k, x, n, g⟩ := c
  show Calls Try.prog 86 #[.agg #[.int .i64 k, .int .i64 x, .int .i64 n, .bool g], .agg #[.int .i64 k, .int .i64 x, .int .i64 n, .bool g]] w _
  go_enter Try.func86, Try.ntmps86
  go_wp2
  go_ret
  exact ⟨rfl, ((Below.refl _ w).alloc (Nat.le_refl _) _).alloc (by simp) _⟩

/-- a row that is filled from its head on -/
structure Part (w : World) (lo g n cap : Nat) (G : List C) : Prop where
  own : ∃ X, w.ownsRow lo 97 4 (.slice (some ⟨g, 0, none⟩) n cap) n X ∧ X.take (G.length * 4) = cvs G
theorem Raw.part {w : World} {lo g n cap : Nat} (r : Raw w lo (.slice (some ⟨g, 0, none⟩) n cap) n) : Part w lo g n cap [] := by
  obtain ⟨X, hX⟩ := r.own
  exact ⟨X, hX, by simp [cvs]⟩
theorem Part.keep {w w' : World} {lo g n cap : Nat} {G : List C} (p : Part w lo g n cap G) (e : w'.heap[g]? = w.heap[g]?) : Part w' lo g n cap G := by
  obtain ⟨X, hX, ht⟩ := p.own
  refine ⟨X, ⟨hX.1, ?_⟩, ht⟩
  rcases hX.2 with h | ⟨g', cap', cur, e', hg, hb, h⟩
  · exact .inl h
  · cases e'
    exact .inr ⟨g, cap, cur, rfl, hg, by rw [e]; exact hb, h⟩
theorem Part.full {w : World} {lo g n cap : Nat} {G : List C} (p : Part w lo g n cap G) (hn : G.length = n) : Own w lo (g + 1) (.slice (some ⟨g, 0, none⟩) n cap) G := by
  subst hn
  obtain ⟨X, hX, ht⟩ := p.own
  rw [List.take_of_length_le (by rw [hX.1]; exact Nat.le_refl _)] at ht
  subst ht
  exact ⟨hX, fun k hk => by cases hk; exact Nat.lt_succ_self _⟩
theorem Part.lt {w : World} {lo g n cap : Nat} {G : List C} (p : Part w lo g n cap G) : lo ≤ g ∧ g < w.heap.size := by
  obtain ⟨X, hX, ht⟩ := p.own
  exact hX.lt g rfl
theorem wpList_store_part {o : Oper} {a : Act} {w : World} {ops : Array Oper} {rest : List Oper} {Q : Exit → Act → World → Prop} (hgd : o.guard = none) (x y : Operand) (ho : o.op = .store 97 x y) (lo g n cap i : Nat) (G : List C) (c : C) (hx : a.eval x = .pointer (some ⟨g, i * 4, none⟩)) (hy : a.eval y = .agg (cv c).toArray)
    (hp : Part w lo g n cap G) (hi : G.length = i) (hlt : i < n) (h : ∀ w', Only g w w' → Part w' lo g n cap (G ++ [c]) → wpList Try.prog ops Q rest (a.put o.dst undef) w') : wpList Try.prog ops Q (o :: rest) a w := by
  subst hi
  obtain ⟨X, hX, ht⟩ := hp.own
  rcases hX.2 with ⟨h', _⟩ | ⟨g', cap', cur, h', hg, hb, hc1, hc2, hc3, htk⟩
  · simp at h'
  · cases h'
    refine wpList_store_mid hgd 97 x y ho g (G.length * 4) (cv c).toArray hx hy (fun j hj => ⟨?_, frozen_of_row _ _ _ _ _ hb⟩) sizeC (all_oneCell_toArray (cvs_one1 c)) (h _ (only_setCells _ _ _ _) ⟨(cur.toList.take (G.length * 4) ++ cv c ++ cur.toList.drop (G.length * 4 + 4)).take (n * 4), ⟨?_, .inr ⟨g, cap, _, rfl, hg, heap_setCells g 97 (cv c) (G.length * 4) w cur.toList (by simpa using hb) ?_, hc1, hc2, ?_, rfl⟩⟩, ?_⟩)
    · rw [cell_of_row _ _ _ _ _ _ hb]
      have hj' : j < 4 := hj
      simp; omega
    · have h4 : (cv c).length = 4 := rfl
      simp only [List.length_take, List.length_append, List.length_drop, Array.length_toList, h4]; omega
    · have h4 : (cv c).length = 4 := rfl
      have hcs : cur.toList.length = cur.size := Array.length_toList
      rw [h4]; omega
    · have h4 : (cv c).length = 4 := rfl
      simp only [List.size_toArray, List.length_take, List.length_append, List.length_drop, Array.length_toList, h4]; omega
    · have h4 : (cv c).length = 4 := rfl
      rw [cvs_append, ← ht, ← htk, List.take_take, List.take_take, List.length_append, List.length_singleton, show min ((G.length + 1) * 4) (n * 4) = G.length * 4 + 4 by omega, show min (G.length * 4) (n * 4) = G.length * 4 by omega, List.append_assoc, List.take_append, List.take_append]
      have hl : (cur.toList.take (G.length * 4)).length = G.length * 4 := by simp; omega
      rw [hl, h4, show G.length * 4 + 4 - G.length * 4 = 4 by omega, List.take_of_length_le (l := cur.toList.take (G.length * 4)) (by omega), List.take_of_length_le (l := cv c) (by omega)]
      simp [cvs]

theorem toCells_any (H : List C) (v : Value) (hi : Nat) (w : World) (hh : hi ≤ w.heap.size) (r : Rd w hi v H) (h2 : H.length ≤ 1048576) :
    Calls Try.prog 46 #[v] w fun e w' => ∃ v', e = .returned v' ∧ Own w' w.heap.size w'.heap.size v' H ∧ Below w.heap.size w w' := by
  obtain ⟨a, cap, rfl, hlc, hcm, hA0⟩ := r.fits
  have hA : Hid (H ≠ [] → ∃ b off, a = some ⟨b, off, none⟩ ∧ b < hi ∧ w.rangeAt b off (cvs H)) := hA0
  clear r hA0
  go_enter Try.func46, Try.ntmps46
  go_wp2_with (first | (refine wpList_make_c rfl _ _ 28 rfl Try.underlying28 H.length h2 rfl rfl ?_; intro g w1 hg1 hg2 hB1 hR1) | (fail))
  go_loopw [4] (fun v wr => ∃ i : Nat, i ≤ H.length ∧ v = .int .i64 i ∧ Part wr w.heap.size g H.length H.length (H.take i) ∧ Below w.heap.size w wr) (fun v _ => H.length - (intOf v).toNat)
  case atStart => exact ⟨0, by omega, rfl, hR1.part, hB1⟩
  case round =>
    obtain ⟨i, hi1, rfl, hp, hBr⟩ := hrel
    by_cases hlt : i < H.length
    · obtain ⟨b, off, rfl, hb, hrg⟩ := hA.out (by intro e; rw [e] at hlt; simp at hlt)
      obtain ⟨c, hc⟩ := hid_ex (H[i])
      have rg : Hid (wr.rangeAt b (off + i * 4) (cv c)) := by
        have h1 := cv_range (range_of hrg (hBr.block b (by omega))) i hlt
        rw [hc.out] at h1
        exact h1
      clear hrg
      have hlt' : (i : Int) < H.length := by omega
      have hbr := hBr.size
      have hil : Hid ((H.take i).length = i) := by unfold Hid; simp; omega
      have hpl := hp.lt
      go_wp2_with (first | (refine wpList_load_r rfl 100 _ rfl b (off + i * 4) (cv c) rfl _ Try.underlying100 rfl sizeLC rg.out ?_) | (go_at_call 77; refine (toCell_any c _).mono ?_; rintro e w3 ⟨rfl, hB3⟩; have hp3 := hp.keep (hB3.block g hpl.2)) | (refine wpList_store_part rfl _ _ rfl w.heap.size g H.length H.length i (H.take i) c rfl rfl hp3 hil.out hlt ?_; intro w4 hO4 hp4) | (fail))
      go_roundw
      case rel =>
        refine ⟨i + 1, by omega, by go_num, ?_, (hBr.trans (hB3.mono hbr)).trans (hO4.2.2 _ (by omega))⟩
        rw [List.take_succ_eq_append_getElem hlt, hc.out]
        exact hp4
      case measure => simp [intOf]; omega
    · have ei : i = H.length := by omega
      have hp' : Part wr w.heap.size g H.length H.length H := by
        have := hp
        rw [ei, List.take_length] at this
        exact this
      clear hp
      go_wp2
      go_ret
      exact ⟨_, rfl, (hp'.full rfl).wide (Nat.le_refl _) hp'.lt.2, hBr⟩

theorem eqCells_any (H : List C) (v v' : Value) (hi hi' : Nat) (w : World) (hh : hi ≤ w.heap.size) (hh' : hi' ≤ w.heap.size) (r : Rd w hi v H) (r' : Rd w hi' v' H) :
    Calls Try.prog 50 #[v, v'] w fun e w' => e = .returned (.bool true) ∧ Below w.heap.size w w' := by
  have hl := r.len
  obtain ⟨a, cap, rfl⟩ := r.form
  obtain ⟨a', cap', rfl⟩ := r'.form
  have R : Hid (Rd w hi (.slice a H.length cap) H) := r
  have R' : Hid (Rd w hi' (.slice a' H.length cap') H) := r'
  clear r r'
  go_enter Try.func50, Try.ntmps50
  go_wp2
  go_loopw [5] (fun v' wr => ∃ i : Nat, i ≤ H.length ∧ v' = .int .i64 i ∧ Below w.heap.size w wr) (fun v' _ => H.length - (intOf v').toNat)
  case atStart => exact ⟨0, by omega, rfl, Below.refl _ _⟩
  case round =>
    obtain ⟨i, hi1, rfl, hBr⟩ := hrel
    by_cases hlt : i < H.length
    · obtain ⟨b, off, rfl, hb, d0, d1, d2, d3⟩ := (R.out.below hBr hh).cell i hlt
      obtain ⟨b', off', rfl, hb', e0, e1, e2, e3⟩ := (R'.out.below hBr hh').cell i hlt
      obtain ⟨c, hc⟩ := hid_ex (H[i])
      rw [hc.out] at d0 d1 d2 d3 e0 e1 e2 e3
      obtain ⟨k, x, n, g⟩ := c
      have hlt' : (i : Int) < H.length := by omega
      have hbr := hBr.size
      have S0 : wr.cell? ⟨b, off + i * 4, none⟩ = some (.int .i64 k) ∧ wr.cell? ⟨b, off + i * 4 + 1, none⟩ = some (.int .i64 x) ∧ wr.cell? ⟨b, off + i * 4 + 2, none⟩ = some (.int .i64 n) ∧ wr.cell? ⟨b, off + i * 4 + 3, none⟩ = some (.bool g) ∧
        wr.cell? ⟨b', off' + i * 4, none⟩ = some (.int .i64 k) ∧ wr.cell? ⟨b', off' + i * 4 + 1, none⟩ = some (.int .i64 x) ∧ wr.cell? ⟨b', off' + i * 4 + 2, none⟩ = some (.int .i64 n) ∧ wr.cell? ⟨b', off' + i * 4 + 3, none⟩ = some (.bool g) := ⟨d0, d1, d2, d3, e0, e1, e2, e3⟩
      go_wp2
      go_region_held3 (fun w' => w'.cell? ⟨b, off + i * 4, none⟩ = some (.int .i64 k) ∧ w'.cell? ⟨b, off + i * 4 + 1, none⟩ = some (.int .i64 x) ∧ w'.cell? ⟨b, off + i * 4 + 2, none⟩ = some (.int .i64 n) ∧ w'.cell? ⟨b, off + i * 4 + 3, none⟩ = some (.bool g) ∧
        w'.cell? ⟨b', off' + i * 4, none⟩ = some (.int .i64 k) ∧ w'.cell? ⟨b', off' + i * 4 + 1, none⟩ = some (.int .i64 x) ∧ w'.cell? ⟨b', off' + i * 4 + 2, none⟩ = some (.int .i64 n) ∧ w'.cell? ⟨b', off' + i * 4 + 3, none⟩ = some (.bool g)) (first | assumption | exact S0) (first | (go_at_call 86; refine (eqCell_any ⟨k, x, n, g⟩ _).mono ?_; rintro e w5 ⟨rfl, hB5⟩; have q1 : ∀ o u, wr.cell? ⟨b, o, none⟩ = some u → w5.cell? ⟨b, o, none⟩ = some u := (fun o u h => by rw [hB5.cell (by show b < wr.heap.size; omega)]; exact h); have q2 : ∀ o u, wr.cell? ⟨b', o, none⟩ = some u → w5.cell? ⟨b', o, none⟩ = some u := (fun o u h => by rw [hB5.cell (by show b' < wr.heap.size; omega)]; exact h); have S5 := And.intro (q1 _ _ d0) (And.intro (q1 _ _ d1) (And.intro (q1 _ _ d2) (And.intro (q1 _ _ d3) (And.intro (q2 _ _ e0) (And.intro (q2 _ _ e1) (And.intro (q2 _ _ e2) (q2 _ _ e3))))))); clear q1 q2) | (fail))
      go_wp2
      go_roundw
      case rel => exact ⟨i + 1, by omega, by go_num, hBr.drew.trans (hB5.mono hbr)⟩
      case measure => simp [intOf]; omega
    · go_wp2
      go_ret
      exact ⟨rfl, hBr⟩

def mark (k : Int) : C := ⟨k, k + 1, k + 1 + 1, (k + 1 + 1 + 1) % 3 == 0⟩
def marks (k : Int) (n : Nat) : List C := (List.range n).map fun j : Nat => mark (k + 4 * (j : Int))
theorem marks_len (k : Int) (n : Nat) : (marks k n).length = n := by simp [marks]
theorem marks_succ (k : Int) (n : Nat) : marks k (n + 1) = marks k n ++ [mark (k + 4 * (n : Int))] := by simp [marks, List.range_succ]
theorem marks_get (k : Int) (n i : Nat) (h : i < (marks k n).length) : (marks k n)[i] = mark (k + 4 * (i : Int)) := by simp [marks]
theorem Own.len {w : World} {lo hi n cap : Nat} {a : Option Addr} {X : List C} (o : Own w lo hi (.slice a n cap) X) : n = X.length := by
  rcases o.row.2 with ⟨e, h0⟩ | ⟨g, cap', cur, e, -⟩
  · cases e; omega
  · cases e; rfl
theorem Own.frozen' {w : World} {lo hi g n cap : Nat} {X : List C} (o : Own w lo hi (.slice (some ⟨g, 0, none⟩) n cap) X) (j : Nat) : w.frozen? ⟨g, j, none⟩ = false := by
  have e := o.len
  subst e
  exact o.frozen j
theorem Own.mark4 {w : World} {lo hi g n cap : Nat} {X : List C} (o : Own w lo hi (.slice (some ⟨g, 0, none⟩) n cap) X) (i : Nat) (hi' : i < X.length) (c : C) :
    Own ((((w.setCell ⟨g, i * 4, none⟩ (.int .i64 c.key)).setCell ⟨g, i * 4 + 1, none⟩ (.int .i64 c.value)).setCell ⟨g, i * 4 + 2, none⟩ (.int .i64 c.next)).setCell ⟨g, i * 4 + 3, none⟩ (.bool c.gone)) lo hi (.slice (some ⟨g, 0, none⟩) n cap) (X.set i c) := by
  have e := o.len
  subst e
  have e1 := o.set i hi' 0 (by omega) (.int .i64 c.key) { X[i] with key := c.key } rfl
  have e2 := Own.set (H := X.set i { X[i] with key := c.key }) (by rw [List.length_set]; exact e1) i (by simpa using hi') 1 (by omega) (.int .i64 c.value) { X[i] with key := c.key, value := c.value } (by simp [cv])
  rw [List.set_set] at e2
  have e3 := Own.set (H := X.set i { X[i] with key := c.key, value := c.value }) (by simpa using e2) i (by simpa using hi') 2 (by omega) (.int .i64 c.next) { X[i] with key := c.key, value := c.value, next := c.next } (by simp [cv])
  rw [List.set_set] at e3
  have e4 := Own.set (H := X.set i { X[i] with key := c.key, value := c.value, next := c.next }) (by simpa using e3) i (by simpa using hi') 3 (by omega) (.bool c.gone) c (by simp [cv])
  rw [List.set_set] at e4
  simpa using e4

theorem markCells_any (H : List C) (v : Value) (lo hi : Nat) (w : World) (own : Own w lo hi v H) (h2 : H.length ≤ 1048576) :
    Calls Try.prog 58 #[v, .int .i64 1] w fun e w' => e = .returned (.int .i64 (1 + 4 * (H.length : Int))) ∧ Own w' lo hi v (marks 1 H.length) ∧ Within lo hi w w' := by
  obtain ⟨a, cap, rfl⟩ := own.rd.form
  have hA : Hid (1 ≤ H.length → ∃ g, a = some ⟨g, 0, none⟩ ∧ lo ≤ g ∧ g < hi) := fun h => by
    obtain ⟨g, cap', e, h1, h2, -⟩ := own.form h
    cases e
    exact ⟨g, rfl, h1, h2⟩
  have O : Hid (Own w lo hi (.slice a H.length cap) H) := own
  clear own
  go_enter Try.func58, Try.ntmps58
  go_wp2
  go_loopw [1, 5] (fun q v' wr => ∃ i : Nat, i ≤ H.length ∧ v' = .int .i64 i ∧ q = .int .i64 (1 + 4 * (i : Int)) ∧ Hid (Own wr lo hi (.slice a H.length cap) (marks 1 i ++ H.drop i)) ∧ Within lo hi w wr) (fun _ v' _ => H.length - (intOf v').toNat)
  case atStart => exact ⟨0, by omega, rfl, by simp, by simpa [marks] using O, Within.refl _ _ _⟩
  case round =>
    obtain ⟨i, hi1, rfl, rfl, ho, hW⟩ := hrel
    by_cases hlt : i < H.length
    · obtain ⟨g, rfl, hg1, hg2⟩ := hA.out (by omega)
      have hil : Hid (i < (marks 1 i ++ H.drop i).length) := by unfold Hid; simp [marks_len]; omega
      obtain ⟨d0, d1, d2, d3⟩ := ho.out.cell i hil.out
      have f0 := ho.out.frozen' (i * 4)
      have f1 := ho.out.frozen' (i * 4 + 1)
      have f2 := ho.out.frozen' (i * 4 + 2)
      have f3 := ho.out.frozen' (i * 4 + 3)
      have hlt' : (i : Int) < H.length := by omega
      go_wp2
      go_roundw
      case rel =>
        have h1 := ho.out.mark4 i hil.out (mark (1 + 4 * (i : Int)))
        have e : (marks 1 i ++ H.drop i).set i (mark (1 + 4 * (i : Int))) = marks 1 (i + 1) ++ H.drop (i + 1) := by
          rw [List.set_append_right _ _ (by rw [marks_len]; omega), marks_len, Nat.sub_self, List.drop_eq_getElem_cons hlt, List.set_cons_zero, marks_succ]
          simp
        rw [e] at h1
        exact ⟨i + 1, by omega, by go_num, by go_num, h1, (((hW.setCell hg1 hg2 _).setCell hg1 hg2 _).setCell hg1 hg2 _).setCell hg1 hg2 _⟩
      case measure => simp [intOf]; omega
    · have ei : i = H.length := by omega
      have ho' : Own wr lo hi (.slice a H.length cap) (marks 1 H.length) := by
        have := ho.out
        rw [ei, List.drop_length, List.append_nil] at this
        exact this
      clear ho
      go_wp2
      go_ret
      exact ⟨by first | rfl | (rw [ei]; rfl), ho', hW⟩

theorem heldCells_any (n : Nat) (v : Value) (hi : Nat) (w : World) (r : Rd w hi v (marks 1 n)) (h2 : n ≤ 1048576) :
    Calls Try.prog 59 #[v, .int .i64 1] w fun e w' => e = .returned (.int .i64 (1 + 4 * (n : Int))) ∧ w' = w := by
  obtain ⟨a, cap, rfl⟩ := r.form
  rw [marks_len] at r ⊢
  have R : Hid (Rd w hi (.slice a n cap) (marks 1 n)) := r
  clear r
  go_enter Try.func59, Try.ntmps59
  go_wp2
  go_loop [1, 5] (fun q v' => ∃ i : Nat, i ≤ n ∧ v' = .int .i64 i ∧ q = .int .i64 (1 + 4 * (i : Int))) (fun _ v' => n - (intOf v').toNat)
  case atStart => exact ⟨0, by omega, rfl, by simp⟩
  case round =>
    obtain ⟨i, hi', rfl, rfl⟩ := hrel
    by_cases hlt : i < n
    · have hil : i < (marks 1 n).length := by rw [marks_len]; exact hlt
      obtain ⟨b, off, rfl, -, d0, d1, d2, d3⟩ := R.out.cell i hil
      rw [marks_get] at d0 d1 d2 d3
      simp only [mark] at d0 d1 d2 d3
      clear hil
      have hlt' : (i : Int) < n := by omega
      go_wp2
      go_round
      case rel => exact ⟨i + 1, by omega, by go_num, by go_num⟩
      case measure => simp [intOf]; omega
    · have e : i = n := by omega
      go_wp2
      go_ret
      exact ⟨by first | rfl | (rw [e]; rfl), rfl⟩

end Go.Proofs.Ythjkhghlhjndmaa.ce
/- Cells that came in as an argument, read as a list. -/
namespace Go.Proofs.Ythjkhghlhjndmaa.ce
open Go.ChangeShapes Go.WideShapes Go.ChangeAt Go.RowKit
open Go.Deep Go.Joins
set_option linter.unusedVariables false

theorem cellsLC : Try.prog.cellsOf 100 = 4 := by kernel_rfl
theorem cellsI : Try.prog.cellsOf 2 = 1 := by kernel_rfl
theorem cellsB : Try.prog.cellsOf 4 = 1 := by kernel_rfl
theorem add_none {a : Addr} (h : a.spot = none) (j : Nat) : a.add j = ⟨a.block, a.off + j, none⟩ := by
  obtain ⟨b, o, s⟩ := a
  simp at h
  subst h
  exact Addr.add_mid b o j
set_option maxRecDepth 100000 in
theorem cv_of_trod {H : Type} {enc : TypeId × Value → H} {w : World} {n : Nat} {cs : List Value} {x : DataW H × List MemPlace} (h : DataW.trod enc Try.prog w 0 (fun _ => true) true n 100 cs = some x) : ∃ c : C, cs = cv c := by
  obtain ⟨xs, m, -, -, hl, hxs, hf⟩ := DataW.trod_struct Try.underlying100 h
  rw [cellsLC] at hl
  match cs, hl with
  | [v0, v1, v2, v3], _ =>
    match xs, hxs with
    | [y0, y1, y2, y3], _ =>
      have h0 := hf 0 _ rfl
      have h1 := hf 1 _ rfl
      have h2 := hf 2 _ rfl
      have h3 := hf 3 _ rfl
      simp [cellsI, cellsB] at h0 h1 h2 h3
      obtain ⟨k, e0, -, -⟩ := DataW.trod_int Try.underlying2 h0
      obtain ⟨x, e1, -, -⟩ := DataW.trod_int Try.underlying2 h1
      obtain ⟨q, e2, -, -⟩ := DataW.trod_int Try.underlying2 h2
      obtain ⟨g, e3, -⟩ := DataW.trod_bool Try.underlying4 h3
      simp at e0 e1 e2 e3
      subst e0 e1 e2 e3
      exact ⟨⟨k, x, q, g⟩, rfl⟩

theorem rd_of_trod {H : Type} {enc : TypeId × Value → H} {w : World} {n : Nat} {v : Value} {x : DataW H × List MemPlace} (h : DataW.trod enc Try.prog w 0 (fun _ => true) true n 22 [v] = some x) : ∃ L, Rd w w.heap.size v L := by
  rcases open_slice Try.underlying22 h with ⟨hcs, -⟩ | ⟨a, len, cap, m, n', D, Pl, hcs, -, hl, hm, hmm, -, hrow⟩
  · obtain rfl : v = .slice none 0 0 := by simpa using hcs
    exact ⟨[], none, 0, rfl, Nat.le_refl _, Nat.zero_le _, fun h => absurd rfl h⟩
  · obtain rfl : v = .slice (some a) len cap := by simpa using hcs
    rw [cellsLC] at hrow
    have hlm : len ≤ m := by rw [hmm]; simp; exact hl
    have hex : ∀ i, i < len → ∃ c : C, w.cells? 0 (a.add (i * 4)) 4 = some (cv c) := fun i hi => by
      obtain ⟨cs', h1, h2⟩ := hrow i (by omega)
      obtain ⟨c, rfl⟩ := cv_of_trod h2
      exact ⟨c, h1⟩
    have : Inhabited C := ⟨⟨0, 0, 0, false⟩⟩
    obtain ⟨F, hF⟩ := choose_lt hex
    refine ⟨(List.range len).map F, some a, cap, by simp, by simpa using hl, hm, fun hn => ?_⟩
    have h0 : 0 < len := by
      rcases Nat.eq_zero_or_pos len with e | e
      · subst e; exact absurd rfl hn
      · exact e
    have hc : ∀ i, i < len → ∀ j, j < 4 → w.cell? ((a.add (i * 4)).add j) = (cv (F i))[j]? := fun i hi j hj => by
      obtain ⟨h1, h2, h3⟩ := World.cells?_some (hF i hi)
      exact h3 j hj
    have hspot : a.spot = none := by
      have := hc 0 h0 0 (by omega)
      simp only [Nat.zero_mul] at this
      have h5 : ((a.add 0).add 0).spot = none := World.cell?_spot (v := .int .i64 (F 0).key) (by rw [this]; rfl)
      obtain ⟨b, o, s⟩ := a
      cases s with
      | none => rfl
      | some s => simp [Addr.add] at h5
    have hlt : a.block < w.heap.size := by
      have := hc 0 h0 0 (by omega)
      rw [add_none hspot, Addr.add_mid] at this
      exact World.block_lt_of_cell? w ⟨a.block, a.off + 0 * 4 + 0, none⟩ (by rw [this]; rfl)
    refine ⟨a.block, a.off, by obtain ⟨b, o, s⟩ := a; simp at hspot; subst hspot; rfl, hlt, fun k u hk => ?_⟩
    have hkl : k < len * 4 := by
      have := (List.getElem?_eq_some_iff.1 hk).1
      rw [cvs_len] at this
      simpa using this
    obtain ⟨i, j, rfl, hj⟩ : ∃ i j, k = i * 4 + j ∧ j < 4 := ⟨k / 4, k % 4, by omega, by omega⟩
    have hi : i < len := by omega
    rw [cvs_get _ i (by simpa using hi) j hj] at hk
    have := hc i hi j hj
    rw [add_none hspot, Addr.add_mid, Nat.add_assoc] at this
    rw [this]
    simpa using hk

set_option maxRecDepth 100000 in
/-- cells among the arguments -/
theorem open_cells {H : Type} {enc : TypeId × Value → H} {W : World} {r : Reach} {b0 : Nat} {v : Value} {d : DataW H} {p : List MemPlace} (hv : Value.okWide Try.prog W r b0 22 v) (h : DataW.Trod enc Try.prog W 0 (fun _ => true) true 22 v d p) :
    ∃ L, Rd W W.heap.size v L := by
  obtain ⟨a, len, cap, rfl⟩ := okWide_slice Try.underlying22 hv
  obtain ⟨m, hm⟩ := h
  exact rd_of_trod (n := m) (by simpa [Value.cells] using hm)
theorem freshH_le (H : List C) (key value next : Int) : (freshH H key value next).length ≤ 1048576 := by
  unfold freshH
  split
  · rename_i h
    have := h.1.2
    split
    · simp; omega
    · omega
  · simp
theorem swappedH_le (H : List C) (p next to : Int) : (swappedH H p next to).length ≤ 1048576 := by
  unfold swappedH
  split
  · rename_i h
    have := h.1.2
    rw [swap1_len]; omega
  · simp
theorem struckH_le (H : List C) (p next : Int) : (struckH H p next).length ≤ 1048576 := by
  unfold struckH
  split
  · rename_i h
    have := h.1.2
    rw [strike1_len]; omega
  · simp

end Go.Proofs.Ythjkhghlhjndmaa.ce
/- The laws' helpers on a hand; a hand that came in as an argument. -/
namespace Go.Proofs.Ythjkhghlhjndmaa.ce
open Go.ChangeShapes Go.WideShapes Go.ChangeAt Go.RowKit
open Go.Deep Go.Joins
set_option linter.unusedVariables false

set_option maxHeartbeats 1000000 in
theorem toHand_any (d : Hd) (w : World) :
    Calls Try.prog 53 #[.agg (hv d).toArray] w fun e w' => e = .returned (.agg (hv d).toArray) ∧ Below w.heap.size w w' := by
  obtain ⟨k, x, y, s, l, h, o, t⟩ := d
  show Calls Try.prog 53 #[.agg #[.int .i64 k, .int .i64 x, .int .i64 y, .int .i64 s, .int .i64 l, .int .i64 h, .int .i64 o, .int .i64 t]] w _
  go_enter Try.func53, Try.ntmps53
  go_wp2
  have h1 : VBlk ((w.alloc (.cells #[.int .i64 k, .int .i64 x, .int .i64 y, .int .i64 s, .int .i64 l, .int .i64 h, .int .i64 o, .int .i64 t] 75)).alloc (.cells #[.int .i64 k, .int .i64 x, .int .i64 y, .int .i64 s, .int .i64 l, .int .i64 h, .int .i64 o, .int .i64 t] 58)) (w.heap.size + 1) 58 [.int .i64 k, .int .i64 x, .int .i64 y, .int .i64 s, .int .i64 l, .int .i64 h, .int .i64 o, .int .i64 t] := by
    have := heap_alloc_new (w.alloc (.cells #[.int .i64 k, .int .i64 x, .int .i64 y, .int .i64 s, .int .i64 l, .int .i64 h, .int .i64 o, .int .i64 t] 75)) (.cells #[.int .i64 k, .int .i64 x, .int .i64 y, .int .i64 s, .int .i64 l, .int .i64 h, .int .i64 o, .int .i64 t] 58)
    simpa [VBlk] using this
  refine row_retv rfl rfl (h1.of (Below.heap_alloc _ _ _ h1.lt)) Try.underlying58 sizeH rfl ⟨rfl, ?_⟩
  exact (((Below.refl _ w).alloc (Nat.le_refl _) _).alloc (by simp) _).alloc (by simp <;> omega) _

theorem eqHand_any (d : Hd) (w : World) :
    Calls Try.prog 57 #[.agg (hv d).toArray, .agg (hv d).toArray] w fun e w' => e = .returned (.bool true) ∧ Below w.heap.size w w' := by
  obtain ⟨k, x, y, s, l, h, o, t⟩ := d
  show Calls Try.prog 57 #[.agg #[.int .i64 k, .int .i64 x, .int .i64 y, .int .i64 s, .int .i64 l, .int .i64 h, .int .i64 o, .int .i64 t], .agg #[.int .i64 k, .int .i64 x, .int .i64 y, .int .i64 s, .int .i64 l, .int .i64 h, .int .i64 o, .int .i64 t]] w _
  go_enter Try.func57, Try.ntmps57
  go_wp2
  go_ret
  exact ⟨rfl, ((Below.refl _ w).alloc (Nat.le_refl _) _).alloc (by simp) _⟩

/-- the law's own variable that holds a hand -/
structure HArg (w : World) (b : Nat) (d : Hd) : Prop where
  blk : VBlk w b 75 (hv d)
theorem HArg.keep {w w' : World} {b : Nat} {d : Hd} (h : HArg w b d) (s : ∀ k, b ≤ k → k < b + 1 → w'.heap[k]? = w.heap[k]?) : HArg w' b d := ⟨h.blk.of (s b (Nat.le_refl _) (Nat.lt_succ_self _))⟩
theorem HArg.below {w w' : World} {B b : Nat} {d : Hd} (h : HArg w b d) (hb : Below B w w') (hlt : b + 1 ≤ B) : HArg w' b d := h.keep fun k _ h2 => hb.block k (by omega)
theorem HArg.drew {w : World} {b : Nat} {d : Hd} (h : HArg w b d) : HArg w.drew b d := ⟨h.blk⟩
theorem HArg.lt {w : World} {b : Nat} {d : Hd} (h : HArg w b d) : b < w.heap.size := h.blk.lt
/-- the eight cells of a hand's variable -/
def H8 (w : World) (q : Nat) (k x y s l h o t : Int) : Prop :=
  w.cell? ⟨q, 0, none⟩ = some (.int .i64 k) ∧ w.cell? ⟨q, 1, none⟩ = some (.int .i64 x) ∧ w.cell? ⟨q, 2, none⟩ = some (.int .i64 y) ∧ w.cell? ⟨q, 3, none⟩ = some (.int .i64 s) ∧ w.cell? ⟨q, 4, none⟩ = some (.int .i64 l) ∧ w.cell? ⟨q, 5, none⟩ = some (.int .i64 h) ∧ w.cell? ⟨q, 6, none⟩ = some (.int .i64 o) ∧ w.cell? ⟨q, 7, none⟩ = some (.int .i64 t)
theorem HArg.cells {w : World} {q : Nat} {k x y s l h o t : Int} (b : HArg w q ⟨k, x, y, s, l, h, o, t⟩) :
    w.cell? ⟨q, 0, none⟩ = some (.int .i64 k) ∧ w.cell? ⟨q, 1, none⟩ = some (.int .i64 x) ∧ w.cell? ⟨q, 2, none⟩ = some (.int .i64 y) ∧ w.cell? ⟨q, 3, none⟩ = some (.int .i64 s) ∧ w.cell? ⟨q, 4, none⟩ = some (.int .i64 l) ∧ w.cell? ⟨q, 5, none⟩ = some (.int .i64 h) ∧ w.cell? ⟨q, 6, none⟩ = some (.int .i64 o) ∧ w.cell? ⟨q, 7, none⟩ = some (.int .i64 t) :=
  ⟨b.blk.cell 0 (by simp [hv]), b.blk.cell 1 (by simp [hv]), b.blk.cell 2 (by simp [hv]), b.blk.cell 3 (by simp [hv]), b.blk.cell 4 (by simp [hv]), b.blk.cell 5 (by simp [hv]), b.blk.cell 6 (by simp [hv]), b.blk.cell 7 (by simp [hv])⟩
theorem sizeLH : (Try.prog.info? 75).map (·.size) = some 8 := by kernel_rfl
theorem cellsLH : Try.prog.cellsOf 75 = 8 := by kernel_rfl
set_option maxRecDepth 100000 in
/-- a hand among the arguments -/
theorem hv_of_trod {H : Type} {enc : TypeId × Value → H} {w : World} {n : Nat} {cs : List Value} {x : DataW H × List MemPlace} (h : DataW.trod enc Try.prog w 0 (fun _ => true) true n 75 cs = some x) : ∃ d : Hd, cs = hv d := by
  obtain ⟨xs, m, -, -, hl, hxs, hf⟩ := DataW.trod_struct Try.underlying75 h
  rw [cellsLH] at hl
  match cs, hl with
  | [v0, v1, v2, v3, v4, v5, v6, v7], _ =>
    match xs, hxs with
    | [y0, y1, y2, y3, y4, y5, y6, y7], _ =>
      have h0 := hf 0 _ rfl
      have h1 := hf 1 _ rfl
      have h2 := hf 2 _ rfl
      have h3 := hf 3 _ rfl
      have h4 := hf 4 _ rfl
      have h5 := hf 5 _ rfl
      have h6 := hf 6 _ rfl
      have h7 := hf 7 _ rfl
      simp [cellsI] at h0 h1 h2 h3 h4 h5 h6 h7
      obtain ⟨a0, e0, -, -⟩ := DataW.trod_int Try.underlying2 h0
      obtain ⟨a1, e1, -, -⟩ := DataW.trod_int Try.underlying2 h1
      obtain ⟨a2, e2, -, -⟩ := DataW.trod_int Try.underlying2 h2
      obtain ⟨a3, e3, -, -⟩ := DataW.trod_int Try.underlying2 h3
      obtain ⟨a4, e4, -, -⟩ := DataW.trod_int Try.underlying2 h4
      obtain ⟨a5, e5, -, -⟩ := DataW.trod_int Try.underlying2 h5
      obtain ⟨a6, e6, -, -⟩ := DataW.trod_int Try.underlying2 h6
      obtain ⟨a7, e7, -, -⟩ := DataW.trod_int Try.underlying2 h7
      simp at e0 e1 e2 e3 e4 e5 e6 e7
      subst e0 e1 e2 e3 e4 e5 e6 e7
      exact ⟨⟨a0, a1, a2, a3, a4, a5, a6, a7⟩, rfl⟩
set_option maxRecDepth 100000 in
theorem open_hand {H : Type} {enc : TypeId × Value → H} {W : World} {r : Reach} {b0 : Nat} {v : Value} {d : DataW H} {p : List MemPlace} (hw : Value.okWide Try.prog W r b0 75 v) (h : DataW.Trod enc Try.prog W 0 (fun _ => true) true 75 v d p) :
    ∃ q : Hd, v = .agg (hv q).toArray := by
  obtain ⟨cs, rfl, hsz⟩ := okWide_struct Try.underlying75 hw
  obtain ⟨m, hm⟩ := h
  obtain ⟨q, hq⟩ := hv_of_trod hm
  refine ⟨q, ?_⟩
  have e : cs.toList = hv q := by simpa [Value.cells] using hq
  rw [← e]
end Go.Proofs.Ythjkhghlhjndmaa.ce
/- What is swapped or struck is a heap still. -/
namespace Go.Proofs.Ythjkhghlhjndmaa.ce
open Go.ChangeShapes Go.WideShapes Go.ChangeAt Go.RowKit
set_option linter.unusedVariables false

theorem fresh_two (H : List C) (key value next : Int) : (freshN H key value next = -1) ∨ (freshN H key value next = (H.length : Int) ∧ freshH H key value next = H ++ [cell key value next] ∧ heapOk (H ++ [cell key value next])) := by
  by_cases h : heapOk H
  · by_cases h2 : freshOk H key value next
    · exact .inr ⟨by unfold freshN; rw [if_pos h, if_pos h2], by unfold freshH; rw [if_pos h, if_pos h2], h2⟩
    · exact .inl (by unfold freshN; rw [if_pos h, if_neg h2])
  · exact .inl (by unfold freshN; rw [if_neg h])

theorem nth_set_key (H : List C) (i : Nat) (hi : i < H.length) (c : C) (hk : c.key = (H[i]).key) (n : Int) : (nth (H.set i c) n).key = (nth H n).key := by
  unfold nth
  rw [List.getD_eq_getElem?_getD, List.getD_eq_getElem?_getD, List.getElem?_set]
  by_cases e : i = n.toNat
  · rw [if_pos e, if_pos hi, ← e, List.getElem?_eq_getElem hi]
    exact hk
  · rw [if_neg e]
theorem leads_set (H : List C) (i : Nat) (hi : i < H.length) (c : C) (hk : c.key = (H[i]).key) (k n : Int) : leads (H.set i c) k n ↔ leads H k n := by
  unfold leads has
  rw [List.length_set, nth_set_key H i hi c hk]
theorem heapOk_cells {H : List C} (h : heapOk H) (j : Nat) (hj : j < H.length) : cellOk H j H[j] := Decidable.byContradiction (dec := Classical.propDecidable _) fun hb => sp_bad H j hj hb h
theorem heapOk_set {H : List C} (h : heapOk H) (i : Nat) (hi : i < H.length) (c : C) (hk : c.key = (H[i]).key) (hg : i = 0 → c.gone = false) (hl : leads H c.key c.next) : heapOk (H.set i c) := by
  have h1 := h.1
  have e0 := nth_nat H 0 h1.1
  have e1 := nth_nat (H.set i c) 0 (by rw [List.length_set]; exact h1.1)
  simp only [Int.natCast_zero] at e0 e1
  refine sp_ok _ (by rw [List.length_set]; exact h1.2) (by rw [List.length_set]; exact h1.1) ?_ ?_ fun j hj => ?_
  · rw [nth_set_key H i hi c hk]; exact h.2.1.1
  · rw [e1]
    by_cases e : i = 0
    · subst e; rw [List.getElem_set_self]; exact hg rfl
    · rw [List.getElem_set_ne e, ← e0]; exact h.2.1.2.1
  · have hj' : j < H.length := by simpa using hj
    by_cases e : i = j
    · subst e
      rw [List.getElem_set_self]
      exact ⟨by rw [hk]; exact (heapOk_cells h i hi).1, (leads_set H i hi c hk _ _).2 hl⟩
    · rw [List.getElem_set_ne e]
      exact ⟨(heapOk_cells h j hj').1, (leads_set H i hi c hk _ _).2 (heapOk_cells h j hj').2⟩
theorem heapOk_swap {H : List C} (h : heapOk H) (i : Nat) (hi : i < H.length) (n z : Int) (hs : swapOk H i n z) : heapOk (swapH H i z) := by
  unfold swapH
  have e := nth_nat H i hi
  refine heapOk_set h _ (by simpa using hi) _ (by rw [e]; simp) (fun hz => ?_) (by show leads H (nth H i).key z; exact hs.2)
  exact hs.1.2.1
theorem heapOk_strike {H : List C} (h : heapOk H) (i : Nat) (hi : i < H.length) (n : Int) (hs : strikeOk H i n) : heapOk (strikeH H i) := by
  unfold strikeH
  have e := nth_nat H i hi
  refine heapOk_set h _ (by simpa using hi) _ (by rw [e]; simp) (fun hz => ?_) ?_
  · have := hs.1
    simp at hz
    omega
  · show leads H (nth H i).key (nth H i).next
    rw [e]
    exact (heapOk_cells h i hi).2
theorem struck_facts {G Y : List C} (hok : heapOk G) (i : Nat) (hi : i < G.length) (n : Int) (hs : strikeOk G i n) (eY : strikeH G i = Y) :
    Hid (decide (heapOk Y) = true) ∧ Hid (Y.length = G.length) ∧ i < Y.length ∧ Hid (∀ h : i < Y.length, (Y[i]).gone = true ∧ (Y[i]).next = n) ∧ Hid ((G[i]).gone = false) := by
  have en := nth_nat G i hi
  have h1 := hs.2.2.1
  have h2 := hs.2.2.2
  rw [en] at h1 h2
  have hY := heapOk_strike hok i hi n hs
  subst eY
  refine ⟨decide_eq_true hY, strikeH_len _ _, by rw [strikeH_len]; exact hi, fun h => ?_, h1⟩
  have e : (strikeH G i)[i] = { nth G i with gone := true } := by simp [strikeH]
  rw [e, en]
  exact ⟨rfl, h2⟩
theorem swap_facts {H X : List C} (hok : heapOk H) (i : Nat) (hi : i < H.length) (n z : Int) (hs : swapOk H i n z) (eX : swapH H i z = X) :
    Hid (decide (heapOk X) = true) ∧ Hid (X.length = H.length) ∧ i < X.length ∧ Hid (∀ h : i < X.length, (X[i]).next = z) ∧ Hid ((H[i]).gone = false ∧ (H[i]).next = n) ∧ Hid (∀ j (h1 : j < X.length) (h2 : j < H.length), j ≠ i → X[j] = H[j]) := by
  have en := nth_nat H i hi
  have h1 := hs.1.2.1
  have h2 := hs.1.2.2
  rw [en] at h1 h2
  have hX := heapOk_swap hok i hi n z hs
  subst eX
  refine ⟨decide_eq_true hX, swapH_len _ _ _, by rw [swapH_len]; exact hi, fun h => ?_, ⟨h1, h2⟩, fun j h3 h4 hj => ?_⟩
  · have e : (swapH H i z)[i] = { nth H i with next := z } := by simp [swapH]
    rw [e]
  · simp only [swapH, Int.toNat_natCast]
    rw [List.getElem_set_ne (fun e => hj e.symm)]
end Go.Proofs.Ythjkhghlhjndmaa.ce
/- The mathematics of chains: from the first cell on, key by key. -/
namespace Go.Proofs.Ythjkhghlhjndmaa.ce
open Go.ChangeShapes Go.WideShapes Go.ChangeAt Go.RowKit
set_option linter.unusedVariables false

/-- L is the chain from p on -/
def Ch (H : List C) : Int → List Int → Prop
  | p, [] => p < 0
  | p, x :: L => p = x ∧ 0 ≤ x ∧ Ch H (nth H x).next L

/-- each cell leads to -1 or to a cell with a greater key; keys from 0 to 65535 -/
structure Up (H : List C) : Prop where
  one : 1 ≤ H.length
  keys : ∀ p, has H p → 0 ≤ (nth H p).key ∧ (nth H p).key ≤ 65535
  next : ∀ p, has H p → (nth H p).next = -1 ∨ has H (nth H p).next ∧ (nth H p).key < (nth H (nth H p).next).key
theorem up_ok {H : List C} (h : heapOk H) : Up H := by
  have nthi : ∀ p, has H p → ∃ (i : Nat) (hi : i < H.length), p = i ∧ nth H p = H[i] := fun p hp => by
    obtain ⟨i, rfl⟩ : ∃ i : Nat, p = i := ⟨p.toNat, by have := hp.1; omega⟩
    have hi : i < H.length := by have := hp.2; omega
    exact ⟨i, hi, rfl, nth_nat H i hi⟩
  refine ⟨h.1.1, fun p hp => ?_, fun p hp => ?_⟩
  · obtain ⟨i, hi, rfl, e⟩ := nthi p hp
    rw [e]
    rcases (heapOk_cells h i hi).1 with h0 | h0
    · subst h0
      have := h.2.1.1
      have e0 := nth_nat H 0 hi
      simp only [Int.natCast_zero] at e0
      rw [e0] at this
      omega
    · omega
  · obtain ⟨i, hi, rfl, e⟩ := nthi p hp
    have := (heapOk_cells h i hi).2
    rw [← e] at this
    rcases this with h1 | h1
    · exact .inl h1
    · exact .inr h1

theorem ch_unique {H : List C} : ∀ {L M : List Int} {p : Int}, Ch H p L → Ch H p M → L = M
  | [], [], _, _, _ => rfl
  | [], y :: M, p, h, k => by have h1 : p < 0 := h; have := k.1; have := k.2.1; omega
  | x :: L, [], p, h, k => by have h1 : p < 0 := k; have := h.1; have := h.2.1; omega
  | x :: L, y :: M, p, h, k => by
    have e : x = y := h.1.symm.trans k.1
    subst e
    rw [ch_unique h.2.2 k.2.2]
theorem ch_exists {H : List C} (u : Up H) : ∀ (m : Nat) (p : Int), (p = -1 ∨ has H p ∧ (65536 - (nth H p).key).toNat ≤ m) → ∃ L, Ch H p L
  | m, p, .inl h => ⟨[], by subst h; show (-1 : Int) < 0; omega⟩
  | 0, p, .inr h => by have := u.keys p h.1; omega
  | m + 1, p, .inr h => by
    have hk := u.keys p h.1
    obtain ⟨L, hL⟩ := ch_exists u m (nth H p).next (by
      rcases u.next p h.1 with h1 | h1
      · exact .inl h1
      · exact .inr ⟨h1.1, by have := u.keys _ h1.1; omega⟩)
    exact ⟨p :: L, rfl, h.1.1, hL⟩
theorem ch_has {H : List C} (u : Up H) : ∀ {L : List Int} {p : Int}, (p = -1 ∨ has H p) → Ch H p L → ∀ x ∈ L, has H x
  | [], _, _, _ => fun x hx => by cases hx
  | y :: L, p, hp, h => fun x hx => by
    obtain ⟨rfl, h0, hc⟩ := h
    have hp' : has H p := by rcases hp with e | e; (· omega); (· exact e)
    rcases List.mem_cons.1 hx with rfl | hx
    · exact hp'
    · exact ch_has u (by rcases u.next p hp' with e | e; (· exact .inl e); (· exact .inr e.1)) hc x hx
/-- keys rise along the chain -/
theorem ch_rises {H : List C} (u : Up H) : ∀ {L : List Int} {p : Int}, (p = -1 ∨ has H p) → Ch H p L → (∀ x ∈ L, (nth H p).key ≤ (nth H x).key) ∧ L.Pairwise fun a b => (nth H a).key < (nth H b).key
  | [], _, _, _ => ⟨fun x hx => (by cases hx), List.Pairwise.nil⟩
  | y :: L, p, hp, h => by
    obtain ⟨rfl, h0, hc⟩ := h
    have hp' : has H p := by rcases hp with e | e; (· omega); (· exact e)
    have hn := u.next p hp'
    have ih := ch_rises u (by rcases hn with e | e; (· exact .inl e); (· exact .inr e.1)) hc
    have hlt : ∀ x ∈ L, (nth H p).key < (nth H x).key := fun x hx => by
      rcases hn with e | e
      · rw [e] at hc
        cases L with
        | nil => cases hx
        | cons z L => have h1 := hc.1; have h2 := hc.2.1; omega
      · have := ih.1 x hx; omega
    refine ⟨fun x hx => ?_, List.Pairwise.cons hlt ih.2⟩
    rcases List.mem_cons.1 hx with rfl | hx
    · exact Int.le_refl _
    · exact Int.le_of_lt (hlt x hx)
theorem ch_pos {H : List C} : ∀ {L : List Int} {p : Int}, Ch H p L → ∀ x ∈ L, 0 ≤ x
  | [], _, _ => fun x hx => by cases hx
  | y :: L, p, h => fun x hx => by
    rcases List.mem_cons.1 hx with rfl | hx
    · exact h.2.1
    · exact ch_pos h.2.2 x hx
theorem pairwise_ne {H : List C} {L : List Int} (h : L.Pairwise fun a b => (nth H a).key < (nth H b).key) : L.Nodup := h.imp fun hab e => by subst e; omega

/-! ### as a function -/
def chainF : Nat → List C → Int → List Int
  | 0, _, _ => []
  | f + 1, H, p => if p < 0 then [] else p :: chainF f H (nth H p).next
def chain (H : List C) : List Int := chainF 65537 H 0
theorem chainF_ch {H : List C} : ∀ {L : List Int} {p : Int} (f : Nat), Ch H p L → L.length < f → chainF f H p = L
  | [], p, f + 1, h, _ => by
    have h1 : p < 0 := h
    simp [chainF, h1]
  | y :: L, p, f + 1, h, hl => by
    obtain ⟨rfl, h0, hc⟩ := h
    have h1 : ¬ p < 0 := by omega
    simp only [chainF, h1, if_false]
    rw [chainF_ch f hc (by simpa using hl)]
  | L, p, 0, h, hl => by omega
theorem ch_len {H : List C} (u : Up H) : ∀ {L : List Int} {p : Int}, (p = -1 ∨ has H p) → Ch H p L → L = [] ∨ (L.length : Int) + (nth H p).key ≤ 65536
  | [], _, _, _ => .inl rfl
  | y :: L, p, hp, h => by
    obtain ⟨rfl, h0, hc⟩ := h
    have hp' : has H p := by rcases hp with e | e; (· omega); (· exact e)
    have hk := u.keys p hp'
    have hn := u.next p hp'
    right
    rcases ch_len u (by rcases hn with e | e; (· exact .inl e); (· exact .inr e.1)) hc with e | e
    · subst e; simp; omega
    · rcases hn with e' | e'
      · rw [e'] at hc
        cases L with
        | nil => simp; omega
        | cons z L => have h1 := hc.1; have h2 := hc.2.1; omega
      · simp only [List.length_cons]
        omega
theorem has_zero {H : List C} (u : Up H) : has H 0 := ⟨Int.le_refl _, by have := u.one; omega⟩
theorem chain_ch {H : List C} (u : Up H) : Ch H 0 (chain H) := by
  have h0 := has_zero u
  obtain ⟨L, hL⟩ := ch_exists u 65536 0 (.inr ⟨h0, by have := u.keys 0 h0; omega⟩)
  have hl : L.length < 65537 := by
    have hk := u.keys 0 h0
    rcases ch_len u (.inr h0) hL with e | e
    · subst e; simp
    · omega
  unfold chain
  rw [chainF_ch 65537 hL hl]
  exact hL
theorem chain_of {H : List C} (u : Up H) {L : List Int} (h : Ch H 0 L) : chain H = L := ch_unique (chain_ch u) h
theorem chain_head {H : List C} (u : Up H) : ∃ L, chain H = 0 :: L ∧ Ch H (nth H 0).next L := by
  have h := chain_ch u
  cases e : chain H with
  | nil => rw [e] at h; exact absurd (h : (0 : Int) < 0) (Int.lt_irrefl 0)
  | cons x L => rw [e] at h; obtain ⟨rfl, -, hc⟩ := h; exact ⟨L, rfl, hc⟩

/-! ### what a change of one cell does to a chain -/
theorem nth_set_ne (H : List C) (i : Nat) (c : C) (x : Int) (h : x.toNat ≠ i) : nth (H.set i c) x = nth H x := by
  unfold nth
  rw [List.getD_eq_getElem?_getD, List.getD_eq_getElem?_getD, List.getElem?_set, if_neg (fun e => h e.symm)]
theorem nth_set_eq (H : List C) (i : Nat) (hi : i < H.length) (c : C) (x : Int) (h : x.toNat = i) : nth (H.set i c) x = c := by
  unfold nth
  rw [List.getD_eq_getElem?_getD, List.getElem?_set, if_pos h.symm, if_pos hi]
  rfl
theorem nth_snoc (H : List C) (c : C) (x : Int) (h : has H x) : nth (H ++ [c]) x = nth H x := by
  unfold nth
  have hx : x.toNat < H.length := by have := h.1; have := h.2; omega
  rw [List.getD_eq_getElem?_getD, List.getD_eq_getElem?_getD, List.getElem?_append_left hx]
theorem ch_set_other {H : List C} (i : Nat) (c : C) : ∀ {L : List Int} {p : Int}, (i : Int) ∉ L → Ch H p L → Ch (H.set i c) p L
  | [], p, _, h => h
  | y :: L, p, hn, h => by
    have hy : y.toNat ≠ i := fun e => hn (by have := h.2.1; rw [show (i : Int) = y by omega]; exact List.mem_cons_self)
    refine ⟨h.1, h.2.1, ?_⟩
    rw [nth_set_ne H i c y hy]
    exact ch_set_other i c (fun hm => hn (List.mem_cons_of_mem _ hm)) h.2.2
/-- a cell's Next stays: so does the chain -/
theorem ch_set_same {H : List C} (i : Nat) (hi : i < H.length) (c : C) (hc : c.next = (nth H i).next) : ∀ {L : List Int} {p : Int}, Ch H p L → Ch (H.set i c) p L
  | [], p, h => h
  | y :: L, p, h => by
    refine ⟨h.1, h.2.1, ?_⟩
    by_cases e : y.toNat = i
    · rw [nth_set_eq H i hi c y e, hc, show (i : Int) = y by have := h.2.1; omega]
      exact ch_set_same i hi c hc h.2.2
    · rw [nth_set_ne H i c y e]
      exact ch_set_same i hi c hc h.2.2
theorem ch_snoc {H : List C} (c : C) : ∀ {L : List Int} {p : Int}, (∀ x ∈ L, has H x) → Ch H p L → Ch (H ++ [c]) p L
  | [], p, _, h => h
  | y :: L, p, hm, h => by
    refine ⟨h.1, h.2.1, ?_⟩
    rw [nth_snoc H c y (hm y List.mem_cons_self)]
    exact ch_snoc c (fun x hx => hm x (List.mem_cons_of_mem _ hx)) h.2.2
/-- one that follows is passed by -/
theorem ch_pass {H : List C} (i : Nat) (hi : i < H.length) (c : C) (x : Int) (hc : c.next = (nth H x).next) : ∀ {A B : List Int} {p : Int}, (A ++ (i : Int) :: x :: B).Nodup → Ch H p (A ++ (i : Int) :: x :: B) → Ch (H.set i c) p (A ++ (i : Int) :: B)
  | [], B, p, hn, h => by
    obtain ⟨h1, h2, h3, h4, h5⟩ := h
    refine ⟨h1, h2, ?_⟩
    rw [nth_set_eq H i hi c i (by omega), hc]
    refine ch_set_other i c (fun hm => ?_) h5
    simp only [List.nil_append, List.nodup_cons] at hn
    exact hn.1 (List.mem_cons_of_mem _ hm)
  | a :: A, B, p, hn, h => by
    obtain ⟨h1, h2, h3⟩ := h
    simp only [List.cons_append, List.nodup_cons] at hn
    refine ⟨h1, h2, ?_⟩
    rw [nth_set_ne H i c a (fun e => hn.1 (by rw [show a = (i : Int) by omega]; simp))]
    exact ch_pass i hi c x hc hn.2 h3
/-- one is put in -/
theorem ch_put {H : List C} (i : Nat) (hi : i < H.length) (c : C) (o : Int) (ho : 0 ≤ o) (hc : c.next = o) (hon : (nth H o).next = (nth H i).next) (hoi : o.toNat ≠ i) : ∀ {A B : List Int} {p : Int}, (A ++ (i : Int) :: B).Nodup → Ch H p (A ++ (i : Int) :: B) → Ch (H.set i c) p (A ++ (i : Int) :: o :: B)
  | [], B, p, hn, h => by
    obtain ⟨h1, h2, h3⟩ := h
    refine ⟨h1, h2, ?_⟩
    rw [nth_set_eq H i hi c i (by omega), hc]
    refine ⟨rfl, ho, ?_⟩
    rw [nth_set_ne H i c o hoi, hon]
    refine ch_set_other i c (fun hm => ?_) h3
    simp only [List.nil_append, List.nodup_cons] at hn
    exact hn.1 hm
  | a :: A, B, p, hn, h => by
    obtain ⟨h1, h2, h3⟩ := h
    simp only [List.cons_append, List.nodup_cons] at hn
    refine ⟨h1, h2, ?_⟩
    rw [nth_set_ne H i c a (fun e => hn.1 (by rw [show a = (i : Int) by omega]; simp))]
    exact ch_put i hi c o ho hc hon hoi hn.2 h3
/-- a chain as it lies round one of its cells -/
theorem ch_split {H : List C} : ∀ {L : List Int} {p x : Int}, Ch H p L → x ∈ L → ∃ A B, L = A ++ x :: B ∧ Ch H (nth H x).next B
  | y :: L, p, x, h, hx => by
    by_cases e : x = y
    · subst e
      exact ⟨[], L, rfl, h.2.2⟩
    · rcases List.mem_cons.1 hx with hx | hx
      · exact absurd hx e
      · obtain ⟨A, B, rfl, hB⟩ := ch_split h.2.2 hx
        exact ⟨y :: A, B, rfl, hB⟩

/-! ### who lives -/
def living (H : List C) : List Int := (((chain H).drop 1).filter fun x => !(nth H x).gone).map fun x => (nth H x).key
def goneN (H : List C) : Nat := ((chain H).filter fun x => (nth H x).gone).length
/-- the value under a key -/
def valueAt (H : List C) (k : Int) : Int × Bool :=
  match ((chain H).drop 1).find? fun x => !(nth H x).gone && (nth H x).key == k with
  | some x => ((nth H x).value, true)
  | none => (0, false)
/-- how far it may go on from q -/
def left (H : List C) (q : Int) : Nat := if q < 0 then 0 else (65536 - (nth H q).key).toNat + 1
theorem left_lt {H : List C} (u : Up H) {q : Int} (hq : has H q) : left H (nth H q).next < left H q := by
  have hk := u.keys _ hq
  have h0 := hq.1
  unfold left
  rw [if_neg (by omega : ¬ q < 0)]
  rcases u.next _ hq with e | e
  · rw [e, if_pos (by omega)]; omega
  · have := u.keys _ e.1
    have := e.1.1
    rw [if_neg (by omega)]
    omega
theorem next_or {H : List C} (u : Up H) {q : Int} (hq : has H q) : (nth H q).next = -1 ∨ has H (nth H q).next := by
  rcases u.next _ hq with e | e
  · exact .inl e
  · exact .inr e.1
theorem chain_len {H : List C} (u : Up H) : (chain H).length ≤ 65536 := by
  have h0 := has_zero u
  have hk := u.keys 0 h0
  rcases ch_len u (.inr h0) (chain_ch u) with e | e
  · rw [e]; simp
  · omega
theorem chain_has {H : List C} (u : Up H) : ∀ x ∈ chain H, has H x := ch_has u (.inr (has_zero u)) (chain_ch u)
/-- the answers of chapter 4, of whatever cells -/
def chainL (H : List C) : List Int := if heapOk H then chain H else []
def livingL (H : List C) : List Int := if heapOk H then living H else []
def valueL (H : List C) (k : Int) : Int × Bool := if heapOk H then valueAt H k else (0, false)
def goneL (H : List C) : Int := if heapOk H then (goneN H : Int) else -1
end Go.Proofs.Ythjkhghlhjndmaa.ce
/- What one small change of the heap does to chain and living: the mathematics that one hand's moves want. -/
namespace Go.Proofs.Ythjkhghlhjndmaa.ce
open Go.ChangeShapes Go.WideShapes Go.ChangeAt Go.RowKit
set_option linter.unusedVariables false

theorem has_nat {H : List C} {p : Int} (h : has H p) : ∃ i : Nat, p = i ∧ i < H.length := ⟨p.toNat, by have := h.1; omega, by have := h.1; have := h.2; omega⟩
/-- a cell's Next is turned: all else of every cell stays -/
theorem swapH_nth (H : List C) (i : Nat) (hi : i < H.length) (z y : Int) : (nth (swapH H i z) y).key = (nth H y).key ∧ (nth (swapH H i z) y).value = (nth H y).value ∧ (nth (swapH H i z) y).gone = (nth H y).gone := by
  unfold swapH
  simp only [Int.toNat_natCast]
  by_cases e : y.toNat = i
  · have e2 : nth H y = nth H i := by unfold nth; rw [e]; simp
    rw [nth_set_eq H i hi _ y e, e2]
    exact ⟨rfl, rfl, rfl⟩
  · rw [nth_set_ne H i _ y e]
    exact ⟨rfl, rfl, rfl⟩
theorem swapH_next (H : List C) (i : Nat) (z y : Int) (h : y.toNat ≠ i) : (nth (swapH H i z) y).next = (nth H y).next := by
  unfold swapH
  simp only [Int.toNat_natCast]
  rw [nth_set_ne H i _ y h]
theorem swapH_next_same (H : List C) (i : Nat) (hi : i < H.length) (z : Int) : (nth (swapH H i z) i).next = z := by
  unfold swapH
  simp only [Int.toNat_natCast]
  rw [nth_set_eq H i hi _ i (by simp)]
theorem strikeH_nth (H : List C) (i : Nat) (hi : i < H.length) (y : Int) : (nth (strikeH H i) y).key = (nth H y).key ∧ (nth (strikeH H i) y).value = (nth H y).value ∧ (nth (strikeH H i) y).next = (nth H y).next ∧ (nth (strikeH H i) y).gone = (if y.toNat = i then true else (nth H y).gone) := by
  unfold strikeH
  simp only [Int.toNat_natCast]
  by_cases e : y.toNat = i
  · have e2 : nth H y = nth H i := by unfold nth; rw [e]; simp
    rw [nth_set_eq H i hi _ y e, e2, if_pos e]
    exact ⟨rfl, rfl, rfl, rfl⟩
  · rw [nth_set_ne H i _ y e, if_neg e]
    exact ⟨rfl, rfl, rfl, rfl⟩
theorem chain_hasX {H : List C} (u : Up H) {x : Int} (h : x ∈ chain H) : has H x := ch_has u (.inr (has_zero u)) (chain_ch u) x h
theorem chain_pw {H : List C} (u : Up H) : (chain H).Pairwise fun a b => (nth H a).key < (nth H b).key := (ch_rises u (.inr (has_zero u)) (chain_ch u)).2
theorem chain_nodup {H : List C} (u : Up H) : (chain H).Nodup := pairwise_ne (chain_pw u)
/-- what follows one of the chain is of the chain -/
theorem chain_next {H : List C} (u : Up H) {x : Int} (h : x ∈ chain H) (h0 : 0 ≤ (nth H x).next) : (nth H x).next ∈ chain H := by
  obtain ⟨A, B, e, hB⟩ := ch_split (chain_ch u) h
  cases B with
  | nil => have h1 : (nth H x).next < 0 := hB; omega
  | cons y B =>
    rw [e, hB.1]
    simp
theorem chain_inj {H : List C} (u : Up H) {x y : Int} (hx : x ∈ chain H) (hy : y ∈ chain H) (hk : (nth H x).key = (nth H y).key) : x = y := by
  have hp := chain_pw u
  obtain ⟨i, hi, rfl⟩ := List.getElem_of_mem hx
  obtain ⟨j, hj, rfl⟩ := List.getElem_of_mem hy
  rcases Nat.lt_trichotomy i j with h | h | h
  · have := (List.pairwise_iff_getElem.1 hp) i j hi hj h; omega
  · subst h; rfl
  · have := (List.pairwise_iff_getElem.1 hp) j i hj hi h; omega

def livL (H : List C) (L : List Int) : List Int := ((L.drop 1).filter fun x => !(nth H x).gone).map fun x => (nth H x).key
theorem living_eq (H : List C) : living H = livL H (chain H) := rfl
theorem livL_congr {H K : List C} {L : List Int} (h : ∀ x ∈ L, (nth H x).key = (nth K x).key ∧ (nth H x).gone = (nth K x).gone) : livL H L = livL K L := by
  unfold livL
  have h1 : (L.drop 1).filter (fun x => !(nth H x).gone) = (L.drop 1).filter fun x => !(nth K x).gone := List.filter_congr fun x hx => by rw [(h x (List.mem_of_mem_drop hx)).2]
  rw [h1]
  exact List.map_congr_left fun x hx => (h x (List.mem_of_mem_drop (List.mem_filter.1 hx).1)).1
theorem livL_pass {H : List C} (i x : Int) (A B : List Int) (hg : (nth H x).gone = true) : livL H (A ++ i :: x :: B) = livL H (A ++ i :: B) := by
  unfold livL
  cases A with
  | nil => simp [hg]
  | cons a A => simp [List.filter_cons, hg]
theorem mem_living {H : List C} {k : Int} : k ∈ living H ↔ ∃ x ∈ (chain H).drop 1, (nth H x).gone = false ∧ (nth H x).key = k := by
  unfold living
  simp only [List.mem_map, List.mem_filter, Bool.not_eq_true']
  constructor
  · rintro ⟨x, ⟨h1, h2⟩, h3⟩; exact ⟨x, h1, h2, h3⟩
  · rintro ⟨x, h1, h2, h3⟩; exact ⟨x, ⟨h1, h2⟩, h3⟩

/-! ### the five changes -/
/-- one that is Gone is passed by -/
theorem pass_chain {H : List C} (hok : heapOk H) (i : Nat) (hi : i < H.length) (x : Int) (hin : (i : Int) ∈ chain H) (hx : (nth H i).next = x) (hx0 : 0 ≤ x) (hok' : heapOk (swapH H i (nth H x).next)) :
    ∃ A B, chain H = A ++ (i : Int) :: x :: B ∧ chain (swapH H i (nth H x).next) = A ++ (i : Int) :: B := by
  have u := up_ok hok
  obtain ⟨A, B, e, hB⟩ := ch_split (chain_ch u) hin
  rw [hx] at hB
  cases B with
  | nil => have h1 : x < 0 := hB; omega
  | cons y B =>
    obtain ⟨rfl, -, hB'⟩ := hB
    have hc := chain_ch u
    have hn := chain_nodup u
    rw [e] at hc hn
    refine ⟨A, B, e, chain_of (up_ok hok') ?_⟩
    have := ch_pass i hi { nth H i with next := (nth H x).next } x rfl hn hc
    unfold swapH
    simpa using this
theorem pass_living {H : List C} (hok : heapOk H) (i : Nat) (hi : i < H.length) (x : Int) (hin : (i : Int) ∈ chain H) (hx : (nth H i).next = x) (hx0 : 0 ≤ x) (hg : (nth H x).gone = true) (hok' : heapOk (swapH H i (nth H x).next)) :
    living (swapH H i (nth H x).next) = living H := by
  obtain ⟨A, B, e1, e2⟩ := pass_chain hok i hi x hin hx hx0 hok'
  rw [living_eq, living_eq, e1, e2, livL_pass (H := H) (i : Int) x A B hg]
  exact livL_congr fun y _ => ⟨(swapH_nth H i hi _ y).1, (swapH_nth H i hi _ y).2.2⟩
/-- one is linked in -/
theorem link_chain {H : List C} (hok : heapOk H) (i : Nat) (hi : i < H.length) (o : Int) (ho : 0 ≤ o) (hin : (i : Int) ∈ chain H) (hon : (nth H o).next = (nth H i).next) (hoi : o ≠ i) (hok' : heapOk (swapH H i o)) :
    ∃ A B, chain H = A ++ (i : Int) :: B ∧ chain (swapH H i o) = A ++ (i : Int) :: o :: B := by
  have u := up_ok hok
  obtain ⟨A, B, e, hB⟩ := ch_split (chain_ch u) hin
  have hc := chain_ch u
  have hn := chain_nodup u
  rw [e] at hc hn
  refine ⟨A, B, e, chain_of (up_ok hok') ?_⟩
  have := ch_put i hi { nth H i with next := o } o ho rfl hon (by omega) hn hc
  unfold swapH
  simpa using this
theorem link_living {H : List C} (hok : heapOk H) (i : Nat) (hi : i < H.length) (o : Int) (ho : 0 ≤ o) (hin : (i : Int) ∈ chain H) (hon : (nth H o).next = (nth H i).next) (hoi : o ≠ i) (hg : (nth H o).gone = false) (hok' : heapOk (swapH H i o)) :
    (nth H o).key ∈ living (swapH H i o) := by
  obtain ⟨A, B, e1, e2⟩ := link_chain hok i hi o ho hin hon hoi hok'
  obtain ⟨k1, k2, k3⟩ := swapH_nth H i hi o o
  refine mem_living.2 ⟨o, ?_, by rw [k3]; exact hg, k1⟩
  rw [e2]
  cases A with
  | nil => simp
  | cons a A => simp
/-- one is struck -/
theorem strike_chain {H : List C} (hok : heapOk H) (i : Nat) (hi : i < H.length) (hok' : heapOk (strikeH H i)) : chain (strikeH H i) = chain H := by
  refine chain_of (up_ok hok') ?_
  have := ch_set_same i hi { nth H i with gone := true } rfl (chain_ch (up_ok hok))
  unfold strikeH
  simpa using this
theorem strike_living {H : List C} (hok : heapOk H) (i : Nat) (hi : i < H.length) (hin : (i : Int) ∈ chain H) (hok' : heapOk (strikeH H i)) : (nth H i).key ∉ living (strikeH H i) := fun h => by
  obtain ⟨x, h1, h2, h3⟩ := mem_living.1 h
  rw [strike_chain hok i hi hok'] at h1
  obtain ⟨k1, -, -, k4⟩ := strikeH_nth H i hi x
  rw [k1] at h3
  have e := chain_inj (up_ok hok) (List.mem_of_mem_drop h1) hin h3
  subst e
  rw [k4, if_pos (by simp)] at h2
  cases h2
/-- one is fresh -/
theorem fresh_chain {H : List C} (hok : heapOk H) (c : C) (hok' : heapOk (H ++ [c])) : chain (H ++ [c]) = chain H :=
  chain_of (up_ok hok') (ch_snoc c (fun x hx => chain_hasX (up_ok hok) hx) (chain_ch (up_ok hok)))
theorem fresh_living {H : List C} (hok : heapOk H) (c : C) (hok' : heapOk (H ++ [c])) : living (H ++ [c]) = living H := by
  rw [living_eq, living_eq, fresh_chain hok c hok']
  exact livL_congr fun x hx => by rw [nth_snoc H c x (chain_hasX (up_ok hok) hx)]; exact ⟨rfl, rfl⟩
/-- the Next of one outside the chain is turned -/
theorem outside_chain {H : List C} (hok : heapOk H) (i : Nat) (z : Int) (hout : (i : Int) ∉ chain H) (hok' : heapOk (swapH H i z)) : chain (swapH H i z) = chain H := by
  refine chain_of (up_ok hok') ?_
  have := ch_set_other i { nth H i with next := z } hout (chain_ch (up_ok hok))
  unfold swapH
  simpa using this
theorem outside_living {H : List C} (hok : heapOk H) (i : Nat) (hi : i < H.length) (z : Int) (hout : (i : Int) ∉ chain H) (hok' : heapOk (swapH H i z)) : living (swapH H i z) = living H := by
  rw [living_eq, living_eq, outside_chain hok i z hout hok']
  exact livL_congr fun y _ => ⟨(swapH_nth H i hi _ y).1, (swapH_nth H i hi _ y).2.2⟩
end Go.Proofs.Ythjkhghlhjndmaa.ce
/- A hand that is right, one small move of it, and what the move keeps: plain mathematics. -/
namespace Go.Proofs.Ythjkhghlhjndmaa.ce
open Go.ChangeShapes Go.WideShapes Go.ChangeAt Go.RowKit
set_option linter.unusedVariables false

def there (H : List C) (d : Hd) : Int := if 0 ≤ d.here then (nth H d.here).key else 65536
/-- a hand that is right beside a right heap -/
structure OkH (H : List C) (d : Hd) : Prop where
  kind : 1 ≤ d.kind ∧ d.kind ≤ 3
  key : 1 ≤ d.key ∧ d.key ≤ 65535
  step : 0 ≤ d.step ∧ d.step ≤ 5
  idle : (d.step = 0 ∨ d.step = 5) → d.left = -1 ∧ d.here = -1
  way : ¬ (d.step = 0 ∨ d.step = 5) → has H d.left ∧ (nth H d.left).key < d.key ∧ (d.here = -1 ∨ 1 ≤ d.here ∧ d.here < (H.length : Int))
  told : (d.step = 5 ↔ d.told ≠ 0) ∧ 0 ≤ d.told ∧ d.told ≤ 2
  inH : 0 ≤ d.here → (nth H d.here).gone = false → d.here ∈ chain H
  inL : 0 ≤ d.left → (nth H d.left).gone = false → d.left ∈ chain H
  act : d.step = 2 → d.key ≤ there H d
  link : d.step = 3 → d.key < there H d ∧ d.kind = 1 ∧ 0 ≤ d.own
  mark : d.step = 4 → there H d = d.key ∧ d.kind = 2
  own : d.own = -1 ∨ (d.kind = 1 ∧ (1 ≤ d.own ∧ d.own < (H.length : Int)) ∧ (nth H d.own).key = d.key ∧ (nth H d.own).value = d.value ∧ (d.step = 3 → (nth H d.own).next = d.here) ∧ (d.step = 5 ∨ (nth H d.own).gone = false ∧ d.own ∉ chain H))

def doneD (d : Hd) (yes : Bool) : Hd := { d with step := 5, left := -1, here := -1, told := if yes then 1 else 2 }
def startD (d : Hd) : Hd := { d with step := 0, left := -1, here := -1 }
def found (H : List C) (d : Hd) : Prop := 0 ≤ d.here ∧ (nth H d.here).key = d.key
instance (H : List C) (d : Hd) : Decidable (found H d) := by unfold found; infer_instance
def stops (H : List C) (d : Hd) : Prop := d.here = -1 ∨ (nth H d.here).gone = false ∧ d.key ≤ (nth H d.here).key
instance (H : List C) (d : Hd) : Decidable (stops H d) := by unfold stops; infer_instance
def moveW (H : List C) (d : Hd) : List C × Hd :=
  if stops H d then (H, { d with step := 2 })
  else if (nth H d.here).gone = true then
    (if swapOk H d.left d.here (nth H d.here).next then (swapH H d.left (nth H d.here).next, { d with here := (nth H d.here).next }) else (H, startD d))
  else (H, { d with left := d.here, here := (nth H d.here).next })
def movePut (H : List C) (d : Hd) : List C × Hd :=
  if d.own < 0 then
    (if freshN H d.key d.value d.here < 0 then (H, doneD d false) else (freshH H d.key d.value d.here, { d with own := freshN H d.key d.value d.here, step := 3 }))
  else (swapH H d.own d.here, { d with step := 3 })
def moveA (H : List C) (d : Hd) : List C × Hd :=
  if d.kind = 3 then (H, doneD d (decide (found H d)))
  else if d.kind = 1 ∧ found H d ∨ d.kind = 2 ∧ ¬ found H d then (H, doneD d false)
  else if d.kind = 1 then movePut H d
  else (H, { d with step := 4 })
def moveL (H : List C) (d : Hd) : List C × Hd := if swapOk H d.left d.here d.own then (swapH H d.left d.own, doneD d true) else (H, startD d)
def moveM (H : List C) (d : Hd) : List C × Hd := if (nth H d.here).gone = true then (H, startD d) else (strike1 H d.here (nth H d.here).next, doneD d true)
def move (H : List C) (d : Hd) : List C × Hd :=
  if d.step = 0 then (H, { d with left := 0, here := (nth H 0).next, step := 1 })
  else if d.step = 1 then moveW H d
  else if d.step = 2 then moveA H d
  else if d.step = 3 then moveL H d
  else if d.step = 4 then moveM H d
  else (H, d)

/-- what a move keeps -/
structure Keeps (H : List C) (d : Hd) (H' : List C) (d' : Hd) : Prop where
  heap : heapOk H'
  hand : OkH H' d'
  kind : d'.kind = d.kind
  key : d'.key = d.key
  value : d'.value = d.value
  lives : d'.told = 1 ∧ d.step ≠ 5 ∧ d.kind ≠ 3 ∧ (d.kind = 1 ∧ d.key ∈ living H' ∨ d.kind = 2 ∧ d.key ∉ living H') ∨ (d'.told = 1 → d.step = 5 ∨ d.kind = 3) ∧ living H' = living H

/-- the heap stays -/
theorem keeps_same {H : List C} {d d' : Hd} (hok : heapOk H) (h : OkH H d') (h1 : d'.kind = d.kind) (h2 : d'.key = d.key) (h3 : d'.value = d.value) (h4 : d'.told = 1 → d.step = 5 ∨ d.kind = 3) : Keeps H d H d' := ⟨hok, h, h1, h2, h3, .inr ⟨h4, rfl⟩⟩

/-- of a hand that has begun: its own cell, if it has one, is neither Gone nor in the chain -/
theorem OkH.own' {H : List C} {d : Hd} (h : OkH H d) (hs : d.step ≠ 5) : d.own = -1 ∨ (d.kind = 1 ∧ (1 ≤ d.own ∧ d.own < (H.length : Int)) ∧ (nth H d.own).key = d.key ∧ (nth H d.own).value = d.value ∧ (d.step = 3 → (nth H d.own).next = d.here) ∧ (nth H d.own).gone = false ∧ d.own ∉ chain H) := by
  rcases h.own with e | ⟨a, b, c, e, f, g⟩
  · exact .inl e
  · rcases g with g | g
    · exact absurd g hs
    · exact .inr ⟨a, b, c, e, f, g.1, g.2⟩
theorem done_ok {H : List C} {d : Hd} (h : OkH H d) (yes : Bool) : OkH H (doneD d yes) :=
  { kind := h.kind, key := h.key, step := ⟨by simp [doneD], by simp [doneD]⟩, idle := fun _ => ⟨rfl, rfl⟩, way := fun hn => absurd (.inr rfl) hn
    told := ⟨by simp only [doneD]; cases yes <;> simp, by simp only [doneD]; cases yes <;> simp, by simp only [doneD]; cases yes <;> simp⟩
    inH := fun h0 => by simp [doneD] at h0
    inL := fun h0 => by simp [doneD] at h0
    act := fun e => by simp [doneD] at e
    link := fun e => by simp [doneD] at e
    mark := fun e => by simp [doneD] at e
    own := by
      rcases h.own with e | ⟨a, b, c, e, f, g⟩
      · exact .inl e
      · exact .inr ⟨a, b, c, e, fun e => by simp [doneD] at e, .inl rfl⟩ }
theorem start_ok {H : List C} {d : Hd} (h : OkH H d) (hs : d.step ≠ 5) : OkH H (startD d) :=
  { kind := h.kind, key := h.key, step := ⟨by simp [startD], by simp [startD]⟩, idle := fun _ => ⟨rfl, rfl⟩, way := fun hn => absurd (.inl rfl) hn
    told := by
      have := h.told
      refine ⟨⟨fun e => by simp [startD] at e, fun e => absurd (this.1.2 e) hs⟩, this.2⟩
    inH := fun h0 => by simp [startD] at h0
    inL := fun h0 => by simp [startD] at h0
    act := fun e => by simp [startD] at e
    link := fun e => by simp [startD] at e
    mark := fun e => by simp [startD] at e
    own := by
      rcases h.own' hs with e | ⟨a, b, c, e, f, g⟩
      · exact .inl e
      · exact .inr ⟨a, b, c, e, fun e => by simp [startD] at e, .inr g⟩ }
theorem told_of {H : List C} {d : Hd} (h : OkH H d) (hs : d.step ≠ 5) : d.told = 0 := Decidable.byContradiction fun e => hs (h.told.1.2 e)
end Go.Proofs.Ythjkhghlhjndmaa.ce
