/- Contracts: the program's small methods on a hand. -/
import Derived.Test.YtnjeepmbkogaeaaHd1
namespace Go.Proofs.Ytnjeepmbkogaeaa.ce
open Go.ChangeShapes Go.WideShapes Go.ChangeAt Go.RowKit
set_option linter.unusedVariables false

theorem ibeq (a b : Int) : (a == b) = decide (a = b) := by
  by_cases h : a = b
  · simp [h]
  · simp [h]

theorem asksRight_any (d : Hd) (w : World) :
    Calls Try.prog 38 #[.agg (hv d).toArray] w fun e w' => e = .returned (.bool (decide ((1 ≤ d.kind ∧ d.kind ≤ 3) ∧ 1 ≤ d.key ∧ d.key ≤ 65535))) ∧ Below w.heap.size w w' := by
  obtain ⟨k, x, y, s, l, e, o, t⟩ := d
  obtain ⟨z, hz⟩ := hid_ex (decide ((1 ≤ k ∧ k ≤ 3) ∧ 1 ≤ x ∧ x ≤ 65535))
  show Calls Try.prog 38 _ w fun e w' => e = .returned (.bool (decide ((1 ≤ k ∧ k ≤ 3) ∧ 1 ≤ x ∧ x ≤ 65535))) ∧ Below w.heap.size w w'
  rw [hz.out]
  go_enter Try.func38, Try.ntmps38
  by_cases h1 : 1 ≤ k
  · have g0 : decide (1 ≤ k) = true := decide_eq_true h1
    by_cases h2 : k ≤ 3
    · have g1 : decide (k ≤ 3) = true := decide_eq_true h2
      by_cases h3 : 1 ≤ x
      · have g2 : decide (1 ≤ x) = true := decide_eq_true h3
        have ez : decide (x ≤ 65535) = z := by rw [← hz.out]; simp [h1, h2, h3]
        clear h1 h2 h3
        go_wp2_with (first | (refine wpList_box_v rfl 29 _ rfl (hv ⟨k, x, y, s, l, e, o, t⟩) rfl ?_; intro b1 w1 hb1 hw1 hB1 hV1; have hz1 := hB1.size; have hb : HB w1 b1 ⟨k, x, y, s, l, e, o, t⟩ := ⟨hV1⟩; obtain ⟨c0, c1, c2, c3, c4, c5, c6, c7⟩ := hb.cells) | (fail))
        go_ret
        exact ⟨by simp, hB1⟩
      · have g2 : decide (1 ≤ x) = false := decide_eq_false h3
        have ez : z = false := by rw [← hz.out]; simp [h3]
        clear h1 h2 h3
        subst ez
        go_wp2_with (first | (refine wpList_box_v rfl 29 _ rfl (hv ⟨k, x, y, s, l, e, o, t⟩) rfl ?_; intro b1 w1 hb1 hw1 hB1 hV1; have hz1 := hB1.size; have hb : HB w1 b1 ⟨k, x, y, s, l, e, o, t⟩ := ⟨hV1⟩; obtain ⟨c0, c1, c2, c3, c4, c5, c6, c7⟩ := hb.cells) | (fail))
        go_ret
        exact ⟨rfl, hB1⟩
    · have g1 : decide (k ≤ 3) = false := decide_eq_false h2
      have ez : z = false := by rw [← hz.out]; simp [h2]
      clear h1 h2
      subst ez
      go_wp2_with (first | (refine wpList_box_v rfl 29 _ rfl (hv ⟨k, x, y, s, l, e, o, t⟩) rfl ?_; intro b1 w1 hb1 hw1 hB1 hV1; have hz1 := hB1.size; have hb : HB w1 b1 ⟨k, x, y, s, l, e, o, t⟩ := ⟨hV1⟩; obtain ⟨c0, c1, c2, c3, c4, c5, c6, c7⟩ := hb.cells) | (fail))
      go_ret
      exact ⟨rfl, hB1⟩
  · have g0 : decide (1 ≤ k) = false := decide_eq_false h1
    have ez : z = false := by rw [← hz.out]; simp [h1]
    clear h1
    subst ez
    go_wp2_with (first | (refine wpList_box_v rfl 29 _ rfl (hv ⟨k, x, y, s, l, e, o, t⟩) rfl ?_; intro b1 w1 hb1 hw1 hB1 hV1; have hz1 := hB1.size; have hb : HB w1 b1 ⟨k, x, y, s, l, e, o, t⟩ := ⟨hV1⟩; obtain ⟨c0, c1, c2, c3, c4, c5, c6, c7⟩ := hb.cells) | (fail))
    go_ret
    exact ⟨rfl, hB1⟩

theorem standsNowhere_any (d : Hd) (w : World) :
    Calls Try.prog 62 #[.agg (hv d).toArray] w fun e w' => e = .returned (.bool (decide (d.step = 0 ∨ d.step = 5))) ∧ Below w.heap.size w w' := by
  obtain ⟨k, x, y, s, l, e, o, t⟩ := d
  obtain ⟨z, hz⟩ := hid_ex (decide (s = 0 ∨ s = 5))
  show Calls Try.prog 62 _ w fun e w' => e = .returned (.bool (decide (s = 0 ∨ s = 5))) ∧ Below w.heap.size w w'
  rw [hz.out]
  go_enter Try.func62, Try.ntmps62
  by_cases h1 : s = 0
  · have g1 : (s == 0) = true := by simpa using h1
    have ez : z = true := by rw [← hz.out]; simp [h1]
    clear h1
    subst ez
    go_wp2_with (first | (refine wpList_box_v rfl 29 _ rfl (hv ⟨k, x, y, s, l, e, o, t⟩) rfl ?_; intro b1 w1 hb1 hw1 hB1 hV1; have hz1 := hB1.size; have hb : HB w1 b1 ⟨k, x, y, s, l, e, o, t⟩ := ⟨hV1⟩; obtain ⟨c0, c1, c2, c3, c4, c5, c6, c7⟩ := hb.cells) | (fail))
    go_ret
    exact ⟨rfl, hB1⟩
  · have g1 : (s == 0) = false := by simpa using h1
    have ez : (s == 5) = z := by rw [← hz.out, ibeq]; simp [h1]
    clear h1
    go_wp2_with (first | (refine wpList_box_v rfl 29 _ rfl (hv ⟨k, x, y, s, l, e, o, t⟩) rfl ?_; intro b1 w1 hb1 hw1 hB1 hV1; have hz1 := hB1.size; have hb : HB w1 b1 ⟨k, x, y, s, l, e, o, t⟩ := ⟨hV1⟩; obtain ⟨c0, c1, c2, c3, c4, c5, c6, c7⟩ := hb.cells) | (fail))
    go_ret
    exact ⟨by simp, hB1⟩

def toldB (s t : Int) : Bool := if s = 5 then decide (t = 1 ∨ t = 2) else decide (t = 0)
def stepB (k s : Int) : Bool := if s = 0 ∨ s = 1 ∨ s = 2 ∨ s = 5 then true else if s = 3 then decide (k = 1) else if s = 4 then decide (k = 2) else false

theorem toldRight_any (d : Hd) (w : World) :
    Calls Try.prog 40 #[.agg (hv d).toArray] w fun e w' => e = .returned (.bool (toldB d.step d.told)) ∧ Below w.heap.size w w' := by
  obtain ⟨k, x, y, s, l, e, o, t⟩ := d
  obtain ⟨z, hz⟩ := hid_ex (toldB s t)
  show Calls Try.prog 40 _ w fun e w' => e = .returned (.bool (toldB s t)) ∧ Below w.heap.size w w'
  rw [hz.out]
  go_enter Try.func40, Try.ntmps40
  by_cases h1 : s = 5
  · have g1 : (s == 5) = true := by simpa using h1
    by_cases h2 : t = 1
    · have g2 : (t == 1) = true := by simpa using h2
      have ez : z = true := by rw [← hz.out]; simp [toldB, h1, h2]
      clear h1 h2
      subst ez
      go_wp2_with (first | (refine wpList_box_v rfl 29 _ rfl (hv ⟨k, x, y, s, l, e, o, t⟩) rfl ?_; intro b1 w1 hb1 hw1 hB1 hV1; have hz1 := hB1.size; have hb : HB w1 b1 ⟨k, x, y, s, l, e, o, t⟩ := ⟨hV1⟩; obtain ⟨c0, c1, c2, c3, c4, c5, c6, c7⟩ := hb.cells) | (fail))
      go_ret
      exact ⟨rfl, hB1⟩
    · have g2 : (t == 1) = false := by simpa using h2
      have ez : (t == 2) = z := by rw [← hz.out, ibeq]; simp [toldB, h1, h2]
      clear h1 h2
      go_wp2_with (first | (refine wpList_box_v rfl 29 _ rfl (hv ⟨k, x, y, s, l, e, o, t⟩) rfl ?_; intro b1 w1 hb1 hw1 hB1 hV1; have hz1 := hB1.size; have hb : HB w1 b1 ⟨k, x, y, s, l, e, o, t⟩ := ⟨hV1⟩; obtain ⟨c0, c1, c2, c3, c4, c5, c6, c7⟩ := hb.cells) | (fail))
      go_ret
      exact ⟨by simp, hB1⟩
  · have g1 : (s == 5) = false := by simpa using h1
    have ez : (t == 0) = z := by rw [← hz.out, ibeq]; simp [toldB, h1]
    clear h1
    go_wp2_with (first | (refine wpList_box_v rfl 29 _ rfl (hv ⟨k, x, y, s, l, e, o, t⟩) rfl ?_; intro b1 w1 hb1 hw1 hB1 hV1; have hz1 := hB1.size; have hb : HB w1 b1 ⟨k, x, y, s, l, e, o, t⟩ := ⟨hV1⟩; obtain ⟨c0, c1, c2, c3, c4, c5, c6, c7⟩ := hb.cells) | (fail))
    go_ret
    exact ⟨by simp, hB1⟩

theorem stepRight_any (d : Hd) (w : World) :
    Calls Try.prog 39 #[.agg (hv d).toArray] w fun e w' => e = .returned (.bool (stepB d.kind d.step)) ∧ Below w.heap.size w w' := by
  obtain ⟨k, x, y, s, l, e, o, t⟩ := d
  obtain ⟨z, hz⟩ := hid_ex (stepB k s)
  show Calls Try.prog 39 _ w fun e w' => e = .returned (.bool (stepB k s)) ∧ Below w.heap.size w w'
  rw [hz.out]
  go_enter Try.func39, Try.ntmps39
  by_cases h0 : s = 0
  · have g0 : (s == 0) = true := by simpa using h0
    have ez : z = true := by rw [← hz.out]; simp [stepB, h0]
    clear h0
    subst ez
    go_wp2_with (first | (refine wpList_box_v rfl 29 _ rfl (hv ⟨k, x, y, s, l, e, o, t⟩) rfl ?_; intro b1 w1 hb1 hw1 hB1 hV1; have hz1 := hB1.size; have hb : HB w1 b1 ⟨k, x, y, s, l, e, o, t⟩ := ⟨hV1⟩; obtain ⟨c0, c1, c2, c3, c4, c5, c6, c7⟩ := hb.cells) | (fail))
    go_ret
    exact ⟨rfl, hB1⟩
  · have g0 : (s == 0) = false := by simpa using h0
    by_cases h1 : s = 1
    · have g1 : (s == 1) = true := by simpa using h1
      have ez : z = true := by rw [← hz.out]; simp [stepB, h1]
      clear h0 h1
      subst ez
      go_wp2_with (first | (refine wpList_box_v rfl 29 _ rfl (hv ⟨k, x, y, s, l, e, o, t⟩) rfl ?_; intro b1 w1 hb1 hw1 hB1 hV1; have hz1 := hB1.size; have hb : HB w1 b1 ⟨k, x, y, s, l, e, o, t⟩ := ⟨hV1⟩; obtain ⟨c0, c1, c2, c3, c4, c5, c6, c7⟩ := hb.cells) | (fail))
      go_ret
      exact ⟨rfl, hB1⟩
    · have g1 : (s == 1) = false := by simpa using h1
      by_cases h2 : s = 2
      · have g2 : (s == 2) = true := by simpa using h2
        have ez : z = true := by rw [← hz.out]; simp [stepB, h2]
        clear h0 h1 h2
        subst ez
        go_wp2_with (first | (refine wpList_box_v rfl 29 _ rfl (hv ⟨k, x, y, s, l, e, o, t⟩) rfl ?_; intro b1 w1 hb1 hw1 hB1 hV1; have hz1 := hB1.size; have hb : HB w1 b1 ⟨k, x, y, s, l, e, o, t⟩ := ⟨hV1⟩; obtain ⟨c0, c1, c2, c3, c4, c5, c6, c7⟩ := hb.cells) | (fail))
        go_ret
        exact ⟨rfl, hB1⟩
      · have g2 : (s == 2) = false := by simpa using h2
        by_cases h5 : s = 5
        · have g5 : (s == 5) = true := by simpa using h5
          have ez : z = true := by rw [← hz.out]; simp [stepB, h5]
          clear h0 h1 h2 h5
          subst ez
          go_wp2_with (first | (refine wpList_box_v rfl 29 _ rfl (hv ⟨k, x, y, s, l, e, o, t⟩) rfl ?_; intro b1 w1 hb1 hw1 hB1 hV1; have hz1 := hB1.size; have hb : HB w1 b1 ⟨k, x, y, s, l, e, o, t⟩ := ⟨hV1⟩; obtain ⟨c0, c1, c2, c3, c4, c5, c6, c7⟩ := hb.cells) | (fail))
          go_ret
          exact ⟨rfl, hB1⟩
        · have g5 : (s == 5) = false := by simpa using h5
          by_cases h3 : s = 3
          · have g3 : (s == 3) = true := by simpa using h3
            have ez : (k == 1) = z := by rw [← hz.out, ibeq]; simp [stepB, h3]
            clear h0 h1 h2 h5 h3
            go_wp2_with (first | (refine wpList_box_v rfl 29 _ rfl (hv ⟨k, x, y, s, l, e, o, t⟩) rfl ?_; intro b1 w1 hb1 hw1 hB1 hV1; have hz1 := hB1.size; have hb : HB w1 b1 ⟨k, x, y, s, l, e, o, t⟩ := ⟨hV1⟩; obtain ⟨c0, c1, c2, c3, c4, c5, c6, c7⟩ := hb.cells) | (fail))
            go_ret
            exact ⟨by simp, hB1⟩
          · have g3 : (s == 3) = false := by simpa using h3
            by_cases h4 : s = 4
            · have g4 : (s == 4) = true := by simpa using h4
              have ez : (k == 2) = z := by rw [← hz.out, ibeq]; simp [stepB, h4]
              clear h0 h1 h2 h5 h3 h4
              go_wp2_with (first | (refine wpList_box_v rfl 29 _ rfl (hv ⟨k, x, y, s, l, e, o, t⟩) rfl ?_; intro b1 w1 hb1 hw1 hB1 hV1; have hz1 := hB1.size; have hb : HB w1 b1 ⟨k, x, y, s, l, e, o, t⟩ := ⟨hV1⟩; obtain ⟨c0, c1, c2, c3, c4, c5, c6, c7⟩ := hb.cells) | (fail))
              go_ret
              exact ⟨by simp, hB1⟩
            · have g4 : (s == 4) = false := by simpa using h4
              have ez : z = false := by rw [← hz.out]; simp [stepB, h0, h1, h2, h5, h3, h4]
              clear h0 h1 h2 h5 h3 h4
              subst ez
              go_wp2_with (first | (refine wpList_box_v rfl 29 _ rfl (hv ⟨k, x, y, s, l, e, o, t⟩) rfl ?_; intro b1 w1 hb1 hw1 hB1 hV1; have hz1 := hB1.size; have hb : HB w1 b1 ⟨k, x, y, s, l, e, o, t⟩ := ⟨hV1⟩; obtain ⟨c0, c1, c2, c3, c4, c5, c6, c7⟩ := hb.cells) | (fail))
              go_ret
              exact ⟨rfl, hB1⟩
end Go.Proofs.Ytnjeepmbkogaeaa.ce
