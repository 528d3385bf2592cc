/- A hand is right just where the program's six parts say so: plain mathematics. -/
import Derived.Test.YthjkhghlhjndmaaMg18
import Derived.Test.YthjkhghlhjndmaaMg14
namespace Go.Proofs.Ythjkhghlhjndmaa.ce
open Go.ChangeShapes Go.WideShapes Go.ChangeAt Go.RowKit
set_option linter.unusedVariables false

structure Parts (H : List C) (k x y s l e o t : Int) : Prop where
  asks : (1 ≤ k ∧ k ≤ 3) ∧ 1 ≤ x ∧ x ≤ 65535
  step : stepB k s = true
  told : toldB s t = true
  left : leftB H x s l = true
  here : hereB H x s e = true
  own : ownB H k x y s e o = true

theorem parts_of_ok {H : List C} (hok : heapOk H) {k x y s l e o t : Int} (h : OkH H ⟨k, x, y, s, l, e, o, t⟩) : Parts H k x y s l e o t := by
  have hk := h.kind; have hx := h.key; have hs := h.step; have hi := h.idle; have hw := h.way; have ht := h.told; have hH := h.inH; have hL := h.inL; have ha := h.act; have hl := h.link; have hm := h.mark; have ho := h.own
  simp only [] at hk hx hs hi hw ht hH hL ha hl hm ho
  refine ⟨⟨hk, hx⟩, ?_, ?_, ?_, ?_, ?_⟩
  · unfold stepB
    rcases (by omega : s = 0 ∨ s = 1 ∨ s = 2 ∨ s = 3 ∨ s = 4 ∨ s = 5) with rfl | rfl | rfl | rfl | rfl | rfl
    · simp
    · simp
    · simp
    · simp; exact (hl rfl).2.1
    · simp; exact (hm rfl).2
    · simp
  · unfold toldB
    by_cases h5 : s = 5
    · rw [if_pos h5]; have := ht.1.1 h5; simp; omega
    · rw [if_neg h5]; simp; exact Decidable.byContradiction fun q => h5 (ht.1.2 q)
  · unfold leftB
    by_cases h5 : s = 0 ∨ s = 5
    · rw [if_pos h5]; simp; exact (hi h5).1
    · rw [if_neg h5]
      obtain ⟨w1, w2, w3⟩ := hw h5
      refine decide_eq_true ⟨⟨w1, ?_⟩, w2⟩
      cases hg : (nth H l).gone with
      | true => exact .inl rfl
      | false => exact .inr (hL w1.1 hg)
  · unfold hereB
    by_cases h5 : s = 0 ∨ s = 5
    · rw [if_pos (.inl h5)]; exact decide_eq_true ⟨(hi h5).2, by omega⟩
    · obtain ⟨w1, w2, w3⟩ := hw h5
      by_cases he : e = -1
      · rw [if_pos (.inr he)]
        refine decide_eq_true ⟨he, fun h4 => ?_⟩
        have := (hm h4).1
        simp [there, he] at this
        omega
      · rw [if_neg (by rintro (q | q); exact h5 q; exact he q)]
        have he1 : 1 ≤ e ∧ e < (H.length : Int) := by rcases w3 with q | q; (· exact absurd q he); (· exact q)
        have hth : there H ⟨k, x, y, s, l, e, o, t⟩ = (nth H e).key := if_pos (by show 0 ≤ e; omega)
        rw [hth] at ha hl hm
        refine decide_eq_true ⟨by omega, ⟨⟨by omega, he1.2⟩, ?_⟩, ha, fun q => (hl q).1, fun q => (hm q).1⟩
        cases hg : (nth H e).gone with
        | true => exact .inl rfl
        | false => exact .inr (hH (by omega) hg)
  · unfold ownB
    by_cases hn : o = -1
    · rw [if_pos hn]; refine decide_eq_true fun q => ?_; have := (hl q).2.2; omega
    · rw [if_neg hn]
      rcases ho with q | ⟨a, b, c, d, f, g⟩
      · exact absurd q hn
      · refine decide_eq_true ⟨a, ⟨by omega, b.2⟩, c, d, ?_⟩
        rcases g with g | g
        · exact .inl g
        · exact .inr ⟨g.1, g.2, f⟩

theorem ok_of_parts {H : List C} (hok : heapOk H) {k x y s l e o t : Int} (h : Parts H k x y s l e o t) : OkH H ⟨k, x, y, s, l, e, o, t⟩ := by
  obtain ⟨⟨hk, hx⟩, hs, ht, hl, he, ho⟩ := h
  have hs' : (0 ≤ s ∧ s ≤ 5) ∧ (s = 3 → k = 1) ∧ (s = 4 → k = 2) := by
    unfold stepB at hs
    by_cases q : s = 0 ∨ s = 1 ∨ s = 2 ∨ s = 5
    · omega
    · rw [if_neg q] at hs
      by_cases q3 : s = 3
      · rw [if_pos q3] at hs; simp at hs; omega
      · rw [if_neg q3] at hs
        by_cases q4 : s = 4
        · rw [if_pos q4] at hs; simp at hs; omega
        · rw [if_neg q4] at hs; cases hs
  have ht' : (s = 5 ↔ t ≠ 0) ∧ 0 ≤ t ∧ t ≤ 2 := by
    unfold toldB at ht
    by_cases q : s = 5
    · rw [if_pos q] at ht; simp at ht; omega
    · rw [if_neg q] at ht; simp at ht; omega
  have hl1 : (s = 0 ∨ s = 5) → l = -1 := fun q => by unfold leftB at hl; rw [if_pos q] at hl; simpa using hl
  have hl2 : ¬ (s = 0 ∨ s = 5) → wlk H l ∧ (nth H l).key < x := fun q => by unfold leftB at hl; rw [if_neg q] at hl; exact of_decide_eq_true hl
  have he1 : (s = 0 ∨ s = 5) ∨ e = -1 → e = -1 ∧ s ≠ 4 := fun q => by unfold hereB at he; rw [if_pos q] at he; exact of_decide_eq_true he
  have he2 : ¬ ((s = 0 ∨ s = 5) ∨ e = -1) → e ≠ 0 ∧ wlk H e ∧ (s = 2 → x ≤ (nth H e).key) ∧ (s = 3 → x < (nth H e).key) ∧ (s = 4 → (nth H e).key = x) := fun q => by unfold hereB at he; rw [if_neg q] at he; exact of_decide_eq_true he
  have ho1 : o = -1 → s ≠ 3 := fun q => by unfold ownB at ho; rw [if_pos q] at ho; exact of_decide_eq_true ho
  have ho2 : o ≠ -1 → k = 1 ∧ has H o ∧ (nth H o).key = x ∧ (nth H o).value = y ∧ (s = 5 ∨ ((nth H o).gone = false ∧ o ∉ chain H ∧ (s = 3 → (nth H o).next = e))) := fun q => by unfold ownB at ho; rw [if_neg q] at ho; exact of_decide_eq_true ho
  clear hs ht hl he ho
  have key0 : (nth H 0).key = 0 := hok.2.1.1
  have e0 : e = -1 ∨ 1 ≤ e ∧ e < (H.length : Int) := by
    by_cases q : (s = 0 ∨ s = 5) ∨ e = -1
    · exact .inl (he1 q).1
    · obtain ⟨a, b, -⟩ := he2 q
      have := b.1.1; have := b.1.2
      exact .inr (by omega)
  have thr : e = -1 → there H ⟨k, x, y, s, l, e, o, t⟩ = 65536 := fun q => if_neg (by show ¬ 0 ≤ e; omega)
  have thr2 : e ≠ -1 → there H ⟨k, x, y, s, l, e, o, t⟩ = (nth H e).key := fun q => if_pos (by show 0 ≤ e; omega)
  refine ⟨hk, hx, hs'.1, ?_, ?_, ht', ?_, ?_, ?_, ?_, ?_, ?_⟩
  · exact fun q => ⟨hl1 q, (he1 (.inl q)).1⟩
  · exact fun q => ⟨(hl2 q).1.1, (hl2 q).2, e0⟩
  · intro q hg
    have q : 0 ≤ e := q
    have hn : ¬ ((s = 0 ∨ s = 5) ∨ e = -1) := fun c => by have := (he1 c).1; omega
    rcases (he2 hn).2.1.2 with c | c
    · rw [show (nth H e).gone = false from hg] at c; cases c
    · exact c
  · intro q hg
    have q : 0 ≤ l := q
    have hn : ¬ (s = 0 ∨ s = 5) := fun c => by have := hl1 c; omega
    rcases (hl2 hn).1.2 with c | c
    · rw [show (nth H l).gone = false from hg] at c; cases c
    · exact c
  · intro q
    have q : s = 2 := q
    show x ≤ there H _
    by_cases c : e = -1
    · rw [thr c]; omega
    · rw [thr2 c]; exact (he2 (by omega)).2.2.1 q
  · intro q
    have q : s = 3 := q
    refine ⟨?_, hs'.2.1 q, ?_⟩
    · show x < there H _
      by_cases c : e = -1
      · rw [thr c]; omega
      · rw [thr2 c]; exact (he2 (by omega)).2.2.2.1 q
    · show 0 ≤ o
      have : o ≠ -1 := fun c => ho1 c q
      exact (ho2 this).2.1.1
  · intro q
    have q : s = 4 := q
    refine ⟨?_, hs'.2.2 q⟩
    show there H _ = x
    have c : e ≠ -1 := fun c => (he1 (.inr c)).2 q
    rw [thr2 c]; exact (he2 (by omega)).2.2.2.2 q
  · show o = -1 ∨ (k = 1 ∧ (1 ≤ o ∧ o < (H.length : Int)) ∧ (nth H o).key = x ∧ (nth H o).value = y ∧ (s = 3 → (nth H o).next = e) ∧ (s = 5 ∨ (nth H o).gone = false ∧ o ∉ chain H))
    by_cases q : o = -1
    · exact .inl q
    · obtain ⟨a, b, c, d, f⟩ := ho2 q
      have b1 := b.1; have b2 := b.2
      have o0 : o ≠ 0 := fun z => by rw [z, key0] at c; omega
      refine .inr ⟨a, ⟨by omega, b2⟩, c, d, fun h3 => ?_, ?_⟩
      · rcases f with f | f
        · omega
        · exact f.2.2 h3
      · rcases f with f | f
        · exact .inl f
        · exact .inr ⟨f.1, f.2.1⟩

theorem okB_parts {H : List C} (hok : heapOk H) {k x y s l e o t : Int} {z : Bool} (hz : okB H ⟨k, x, y, s, l, e, o, t⟩ = z) : (z = true ↔ Parts H k x y s l e o t) := by
  rw [← hz, okB_iff]
  exact ⟨parts_of_ok hok, ok_of_parts hok⟩
theorem okB_no {H : List C} (hok : heapOk H) {k x y s l e o t : Int} {z : Bool} (hz : okB H ⟨k, x, y, s, l, e, o, t⟩ = z) (h : ¬ Parts H k x y s l e o t) : z = false := by
  cases z with
  | false => rfl
  | true => exact absurd ((okB_parts hok hz).1 rfl) h
end Go.Proofs.Ythjkhghlhjndmaa.ce
