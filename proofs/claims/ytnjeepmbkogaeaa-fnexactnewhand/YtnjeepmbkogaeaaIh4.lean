/- Contracts: the program's hereRight. -/
import Derived.Test.YtnjeepmbkogaeaaIh3
namespace Go.Proofs.Ytnjeepmbkogaeaa.ce
open Go.ChangeShapes Go.WideShapes Go.ChangeAt Go.RowKit
set_option linter.unusedVariables false

def hereB (H : List C) (x s e : Int) : Bool := if (s = 0 ∨ s = 5) ∨ e = -1 then decide (e = -1 ∧ s ≠ 4) else decide (e ≠ 0 ∧ wlk H e ∧ (s = 2 → x ≤ (nth H e).key) ∧ (s = 3 → x < (nth H e).key) ∧ (s = 4 → (nth H e).key = x))

set_option maxHeartbeats 2000000 in
theorem hereRight_any (H : List C) (hok : heapOk H) (d : Hd) (v : Value) (hi : Nat) (w : World) (hh : hi ≤ w.heap.size) (r : Rd w hi v H) :
    Calls Try.prog 42 #[v, .agg (hv d).toArray] w fun e w' => e = .returned (.bool (hereB H d.key d.step d.here)) ∧ Below w.heap.size w w' := by
  have hl := r.len
  obtain ⟨a, cap, rfl⟩ := r.form
  have R : Hid (Rd w hi (.slice a H.length cap) H) := r
  have HO : Hid (heapOk H) := hok
  clear r hok
  obtain ⟨k, x, y, s, l, e, o, t⟩ := d
  obtain ⟨z, hz⟩ := hid_ex (hereB H x s e)
  show Calls Try.prog 42 _ w fun e' w' => e' = .returned (.bool (hereB H x s e)) ∧ Below w.heap.size w w'
  rw [hz.out]
  by_cases he : e = -1
  · have ge : (e == -1) = true := by simpa using he
    have ez : (s != 4) = z := by rw [← hz.out, bne, ibeq]; simp [hereB, he]
    clear he
    by_cases hs : s = 0 ∨ s = 5
    · have SS : Hid (decide (s = 0 ∨ s = 5) = true) := decide_eq_true hs
      clear hs
      go_enter Try.func42, Try.ntmps42
      go_wp2_with (first | (refine wpList_box_v rfl 29 _ rfl (hv ⟨k, x, y, s, l, e, o, t⟩) rfl ?_; intro b1 w1 hb1 hw1 hB1 hV1; have hz1 := hB1.size; have hb : HB w1 b1 ⟨k, x, y, s, l, e, o, t⟩ := ⟨hV1⟩; obtain ⟨c0, c1, c2, c3, c4, c5, c6, c7⟩ := hb.cells) | (go_at_call 62; refine (standsNowhere_any ⟨k, x, y, s, l, e, o, t⟩ _).mono ?_; rintro er w2 ⟨rfl, hB2⟩; rw [SS.out]; have hz2 := hB2.size; replace hb := hb.of (hB2.block b1 hw1); clear c0 c1 c2 c3 c4 c5 c6 c7; obtain ⟨c0, c1, c2, c3, c4, c5, c6, c7⟩ := hb.cells; have hB : Below w.heap.size w w2 := hB1.trans (hB2.mono hz1); clear hB1 hB2) | (fail))
      go_ret
      exact ⟨by simp, hB⟩
    · have SS : Hid (decide (s = 0 ∨ s = 5) = false) := decide_eq_false hs
      clear hs
      go_enter Try.func42, Try.ntmps42
      go_wp2_with (first | (refine wpList_box_v rfl 29 _ rfl (hv ⟨k, x, y, s, l, e, o, t⟩) rfl ?_; intro b1 w1 hb1 hw1 hB1 hV1; have hz1 := hB1.size; have hb : HB w1 b1 ⟨k, x, y, s, l, e, o, t⟩ := ⟨hV1⟩; obtain ⟨c0, c1, c2, c3, c4, c5, c6, c7⟩ := hb.cells) | (go_at_call 62; refine (standsNowhere_any ⟨k, x, y, s, l, e, o, t⟩ _).mono ?_; rintro er w2 ⟨rfl, hB2⟩; rw [SS.out]; have hz2 := hB2.size; replace hb := hb.of (hB2.block b1 hw1); clear c0 c1 c2 c3 c4 c5 c6 c7; obtain ⟨c0, c1, c2, c3, c4, c5, c6, c7⟩ := hb.cells; have hB : Below w.heap.size w w2 := hB1.trans (hB2.mono hz1); clear hB1 hB2) | (fail))
      go_ret
      exact ⟨by simp, hB⟩
  have ge : (e == -1) = false := by simpa using he
  by_cases hs : s = 0 ∨ s = 5
  · have SS : Hid (decide (s = 0 ∨ s = 5) = true) := decide_eq_true hs
    have ez : z = false := by rw [← hz.out]; simp [hereB, he, hs]
    clear hs he
    subst ez
    go_enter Try.func42, Try.ntmps42
    go_wp2_with (first | (refine wpList_box_v rfl 29 _ rfl (hv ⟨k, x, y, s, l, e, o, t⟩) rfl ?_; intro b1 w1 hb1 hw1 hB1 hV1; have hz1 := hB1.size; have hb : HB w1 b1 ⟨k, x, y, s, l, e, o, t⟩ := ⟨hV1⟩; obtain ⟨c0, c1, c2, c3, c4, c5, c6, c7⟩ := hb.cells) | (go_at_call 62; refine (standsNowhere_any ⟨k, x, y, s, l, e, o, t⟩ _).mono ?_; rintro er w2 ⟨rfl, hB2⟩; rw [SS.out]; have hz2 := hB2.size; replace hb := hb.of (hB2.block b1 hw1); clear c0 c1 c2 c3 c4 c5 c6 c7; obtain ⟨c0, c1, c2, c3, c4, c5, c6, c7⟩ := hb.cells; have hB : Below w.heap.size w w2 := hB1.trans (hB2.mono hz1); clear hB1 hB2) | (fail))
    go_ret
    exact ⟨rfl, hB⟩
  have SS : Hid (decide (s = 0 ∨ s = 5) = false) := decide_eq_false hs
  by_cases h0 : e = 0
  · have g0 : (e == 0) = true := by simpa using h0
    have ez : z = false := by rw [← hz.out]; simp [hereB, hs, h0]
    clear hs he h0
    subst ez
    go_enter Try.func42, Try.ntmps42
    go_wp2_with (first | (refine wpList_box_v rfl 29 _ rfl (hv ⟨k, x, y, s, l, e, o, t⟩) rfl ?_; intro b1 w1 hb1 hw1 hB1 hV1; have hz1 := hB1.size; have hb : HB w1 b1 ⟨k, x, y, s, l, e, o, t⟩ := ⟨hV1⟩; obtain ⟨c0, c1, c2, c3, c4, c5, c6, c7⟩ := hb.cells) | (go_at_call 62; refine (standsNowhere_any ⟨k, x, y, s, l, e, o, t⟩ _).mono ?_; rintro er w2 ⟨rfl, hB2⟩; rw [SS.out]; have hz2 := hB2.size; replace hb := hb.of (hB2.block b1 hw1); clear c0 c1 c2 c3 c4 c5 c6 c7; obtain ⟨c0, c1, c2, c3, c4, c5, c6, c7⟩ := hb.cells; have hB : Below w.heap.size w w2 := hB1.trans (hB2.mono hz1); clear hB1 hB2) | (fail))
    go_ret
    exact ⟨rfl, hB⟩
  have g0 : (e == 0) = false := by simpa using h0
  by_cases hp : wlk H e
  · have WW : Hid (decide (wlk H e) = true) := decide_eq_true hp
    obtain ⟨i, rfl⟩ : ∃ i : Nat, e = i := ⟨e.toNat, by have := hp.1.1; omega⟩
    have hi1 : i < H.length := by have := hp.1.2; omega
    have hi1' : (i : Int) < H.length := by omega
    have hi0 : ¬ ((i : Int) = -1) := he
    have en := nth_nat H i hi1
    obtain ⟨b, off, rfl, hbh, e0, -, -, -⟩ := R.out.cell i hi1
    obtain ⟨kk, hkk⟩ := hid_ex (H[i].key)
    rw [hkk.out] at e0
    clear he
    have h00 : ¬ i = 0 := by omega
    clear h0
    by_cases h2 : s = 2
    · have g2 : (s == 2) = true := by simpa using h2
      have ez : decide (x ≤ kk) = z := by rw [← hz.out]; simp [hereB, hp, en, hkk.out, h2, hi0, h00]
      clear hs hp h2
      go_enter Try.func42, Try.ntmps42
      go_wp2_with (first | (refine wpList_box_v rfl 29 _ rfl (hv ⟨k, x, y, s, l, (i : Int), o, t⟩) rfl ?_; intro b1 w1 hb1 hw1 hB1 hV1; have hz1 := hB1.size; have hb : HB w1 b1 ⟨k, x, y, s, l, (i : Int), o, t⟩ := ⟨hV1⟩; obtain ⟨c0, c1, c2, c3, c4, c5, c6, c7⟩ := hb.cells) | (go_at_call 62; refine (standsNowhere_any ⟨k, x, y, s, l, (i : Int), o, t⟩ _).mono ?_; rintro er w2 ⟨rfl, hB2⟩; rw [SS.out]; have hz2 := hB2.size; replace hb := hb.of (hB2.block b1 hw1); clear c0 c1 c2 c3 c4 c5 c6 c7; obtain ⟨c0, c1, c2, c3, c4, c5, c6, c7⟩ := hb.cells; have hB : Below w.heap.size w w2 := hB1.trans (hB2.mono hz1); clear hB1 hB2) | (go_at_call 63; refine (walkable_any H HO.out (i : Int) _ hi _ (by omega) (R.out.below hB hh)).mono ?_; rintro er w3 ⟨rfl, hB3⟩; rw [WW.out]; have hz3 := hB3.size; replace hb := hb.of (hB3.block b1 (by omega)); clear c0 c1 c2 c3 c4 c5 c6 c7; obtain ⟨c0, c1, c2, c3, c4, c5, c6, c7⟩ := hb.cells; replace hB := hB.trans (hB3.mono (by omega)); have e3 := (World.cell?_of_block (w := w) (w' := w3) (a := ⟨b, off + i * 4, none⟩) (hB.block b (by omega))).trans e0) | (fail))
      try go_frame
      go_big_quiet (fail)
      go_wp2
      go_ret
      exact ⟨by simp, hB.trans (below_drewN _ _)⟩
    · have g2 : (s == 2) = false := by simpa using h2
      by_cases h3 : s = 3
      · have g3 : (s == 3) = true := by simpa using h3
        have ez : decide (x < kk) = z := by rw [← hz.out]; simp [hereB, hp, en, hkk.out, h3, hi0, h00]
        clear hs hp h2 h3
        go_enter Try.func42, Try.ntmps42
        go_wp2_with (first | (refine wpList_box_v rfl 29 _ rfl (hv ⟨k, x, y, s, l, (i : Int), o, t⟩) rfl ?_; intro b1 w1 hb1 hw1 hB1 hV1; have hz1 := hB1.size; have hb : HB w1 b1 ⟨k, x, y, s, l, (i : Int), o, t⟩ := ⟨hV1⟩; obtain ⟨c0, c1, c2, c3, c4, c5, c6, c7⟩ := hb.cells) | (go_at_call 62; refine (standsNowhere_any ⟨k, x, y, s, l, (i : Int), o, t⟩ _).mono ?_; rintro er w2 ⟨rfl, hB2⟩; rw [SS.out]; have hz2 := hB2.size; replace hb := hb.of (hB2.block b1 hw1); clear c0 c1 c2 c3 c4 c5 c6 c7; obtain ⟨c0, c1, c2, c3, c4, c5, c6, c7⟩ := hb.cells; have hB : Below w.heap.size w w2 := hB1.trans (hB2.mono hz1); clear hB1 hB2) | (go_at_call 63; refine (walkable_any H HO.out (i : Int) _ hi _ (by omega) (R.out.below hB hh)).mono ?_; rintro er w3 ⟨rfl, hB3⟩; rw [WW.out]; have hz3 := hB3.size; replace hb := hb.of (hB3.block b1 (by omega)); clear c0 c1 c2 c3 c4 c5 c6 c7; obtain ⟨c0, c1, c2, c3, c4, c5, c6, c7⟩ := hb.cells; replace hB := hB.trans (hB3.mono (by omega)); have e3 := (World.cell?_of_block (w := w) (w' := w3) (a := ⟨b, off + i * 4, none⟩) (hB.block b (by omega))).trans e0) | (fail))
        try go_frame
        go_big_quiet (fail)
        go_wp2
        go_ret
        exact ⟨by simp, hB.trans (below_drewN _ _)⟩
      · have g3 : (s == 3) = false := by simpa using h3
        by_cases h4 : s = 4
        · have g4 : (s == 4) = true := by simpa using h4
          have ez : (kk == x) = z := by rw [← hz.out, ibeq]; simp [hereB, hp, en, hkk.out, h4, hi0, h00]
          clear hs hp h2 h3 h4
          go_enter Try.func42, Try.ntmps42
          go_wp2_with (first | (refine wpList_box_v rfl 29 _ rfl (hv ⟨k, x, y, s, l, (i : Int), o, t⟩) rfl ?_; intro b1 w1 hb1 hw1 hB1 hV1; have hz1 := hB1.size; have hb : HB w1 b1 ⟨k, x, y, s, l, (i : Int), o, t⟩ := ⟨hV1⟩; obtain ⟨c0, c1, c2, c3, c4, c5, c6, c7⟩ := hb.cells) | (go_at_call 62; refine (standsNowhere_any ⟨k, x, y, s, l, (i : Int), o, t⟩ _).mono ?_; rintro er w2 ⟨rfl, hB2⟩; rw [SS.out]; have hz2 := hB2.size; replace hb := hb.of (hB2.block b1 hw1); clear c0 c1 c2 c3 c4 c5 c6 c7; obtain ⟨c0, c1, c2, c3, c4, c5, c6, c7⟩ := hb.cells; have hB : Below w.heap.size w w2 := hB1.trans (hB2.mono hz1); clear hB1 hB2) | (go_at_call 63; refine (walkable_any H HO.out (i : Int) _ hi _ (by omega) (R.out.below hB hh)).mono ?_; rintro er w3 ⟨rfl, hB3⟩; rw [WW.out]; have hz3 := hB3.size; replace hb := hb.of (hB3.block b1 (by omega)); clear c0 c1 c2 c3 c4 c5 c6 c7; obtain ⟨c0, c1, c2, c3, c4, c5, c6, c7⟩ := hb.cells; replace hB := hB.trans (hB3.mono (by omega)); have e3 := (World.cell?_of_block (w := w) (w' := w3) (a := ⟨b, off + i * 4, none⟩) (hB.block b (by omega))).trans e0) | (fail))
          try go_frame
          go_big_quiet (fail)
          go_wp2
          go_ret
          exact ⟨by simp, hB.trans (below_drewN _ _)⟩
        · have g4 : (s == 4) = false := by simpa using h4
          have ez : z = true := by rw [← hz.out]; simp [hereB, hp, en, hs, h2, h3, h4, hi0, h00]
          clear hs hp h2 h3 h4
          subst ez
          go_enter Try.func42, Try.ntmps42
          go_wp2_with (first | (refine wpList_box_v rfl 29 _ rfl (hv ⟨k, x, y, s, l, (i : Int), o, t⟩) rfl ?_; intro b1 w1 hb1 hw1 hB1 hV1; have hz1 := hB1.size; have hb : HB w1 b1 ⟨k, x, y, s, l, (i : Int), o, t⟩ := ⟨hV1⟩; obtain ⟨c0, c1, c2, c3, c4, c5, c6, c7⟩ := hb.cells) | (go_at_call 62; refine (standsNowhere_any ⟨k, x, y, s, l, (i : Int), o, t⟩ _).mono ?_; rintro er w2 ⟨rfl, hB2⟩; rw [SS.out]; have hz2 := hB2.size; replace hb := hb.of (hB2.block b1 hw1); clear c0 c1 c2 c3 c4 c5 c6 c7; obtain ⟨c0, c1, c2, c3, c4, c5, c6, c7⟩ := hb.cells; have hB : Below w.heap.size w w2 := hB1.trans (hB2.mono hz1); clear hB1 hB2) | (go_at_call 63; refine (walkable_any H HO.out (i : Int) _ hi _ (by omega) (R.out.below hB hh)).mono ?_; rintro er w3 ⟨rfl, hB3⟩; rw [WW.out]; have hz3 := hB3.size; replace hb := hb.of (hB3.block b1 (by omega)); clear c0 c1 c2 c3 c4 c5 c6 c7; obtain ⟨c0, c1, c2, c3, c4, c5, c6, c7⟩ := hb.cells; replace hB := hB.trans (hB3.mono (by omega))) | (fail))
          go_ret
          exact ⟨rfl, hB⟩
  · have WW : Hid (decide (wlk H e) = false) := decide_eq_false hp
    have ez : z = false := by rw [← hz.out]; simp [hereB, hs, he, hp]
    clear hs he h0 hp
    subst ez
    go_enter Try.func42, Try.ntmps42
    go_wp2_with (first | (refine wpList_box_v rfl 29 _ rfl (hv ⟨k, x, y, s, l, e, o, t⟩) rfl ?_; intro b1 w1 hb1 hw1 hB1 hV1; have hz1 := hB1.size; have hb : HB w1 b1 ⟨k, x, y, s, l, e, o, t⟩ := ⟨hV1⟩; obtain ⟨c0, c1, c2, c3, c4, c5, c6, c7⟩ := hb.cells) | (go_at_call 62; refine (standsNowhere_any ⟨k, x, y, s, l, e, o, t⟩ _).mono ?_; rintro er w2 ⟨rfl, hB2⟩; rw [SS.out]; have hz2 := hB2.size; replace hb := hb.of (hB2.block b1 hw1); clear c0 c1 c2 c3 c4 c5 c6 c7; obtain ⟨c0, c1, c2, c3, c4, c5, c6, c7⟩ := hb.cells; have hB : Below w.heap.size w w2 := hB1.trans (hB2.mono hz1); clear hB1 hB2) | (go_at_call 63; refine (walkable_any H HO.out e _ hi _ (by omega) (R.out.below hB hh)).mono ?_; rintro er w3 ⟨rfl, hB3⟩; rw [WW.out]; have hz3 := hB3.size; replace hb := hb.of (hB3.block b1 (by omega)); clear c0 c1 c2 c3 c4 c5 c6 c7; obtain ⟨c0, c1, c2, c3, c4, c5, c6, c7⟩ := hb.cells; replace hB := hB.trans (hB3.mono (by omega))) | (fail))
    go_ret
    exact ⟨rfl, hB⟩
end Go.Proofs.Ytnjeepmbkogaeaa.ce
