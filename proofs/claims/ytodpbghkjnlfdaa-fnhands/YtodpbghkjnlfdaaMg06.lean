/- Texts laid together: Ih5 Ok1 Ok2. -/
import Derived.Test.YtodpbghkjnlfdaaMg05
import Derived.Test.YtodpbghkjnlfdaaMg04
import Derived.Deep.DeepCutAuto
/- Contracts: the program's ownRight. -/
namespace Go.Proofs.Ytodpbghkjnlfdaa.ce
open Go.ChangeShapes Go.WideShapes Go.ChangeAt Go.RowKit
set_option linter.unusedVariables false
open Go.Proofs.Ytodpbghkjnlfdaa.it
theorem has_is (H : List C) (p : Int) (a : Option Addr) (cap : Nat) (hl : H.length ≤ 9223372036854775807) (z : Bool) (hz : decide (has H p) = z) (w : World) :
    Calls Try.prog 64 #[.slice a H.length cap, .int .i64 p] w fun e w' => e = .returned (.bool z) ∧ w' = w := by
  rw [← hz]; exact has_any H p a cap hl w
def ownB (H : List C) (k x y s e o : Int) : Bool := if o = -1 then decide (s ≠ 3) else decide (k = 1 ∧ has H o ∧ (nth H o).key = x ∧ (nth H o).value = y ∧ (s = 5 ∨ ((nth H o).gone = false ∧ o ∉ chain H ∧ (s = 3 → (nth H o).next = e))))

set_option maxRecDepth 100000 in
set_option maxHeartbeats 4000000 in
theorem ownRight_any (H : List C) (hok : heapOk H) (d : Hd) (v : Value) (hi : Nat) (w : World) (hh : hi ≤ w.heap.size) (r : Rd w hi v H) :
    Calls Try.prog 43 #[v, .agg (hv d).toArray] w fun e w' => e = .returned (.bool (ownB H d.kind d.key d.value d.step d.here d.own)) ∧ Below w.heap.size w w' := by
  have hl := r.len
  obtain ⟨a, cap, rfl⟩ := r.form
  have R : Hid (Rd w hi (.slice a H.length cap) H) := r
  have HO : Hid (heapOk H) := hok
  clear r hok
  obtain ⟨k, x, y, s, l, e, o, t⟩ := d
  obtain ⟨z, hz⟩ := hid_ex (ownB H k x y s e o)
  show Calls Try.prog 43 _ w fun e' w' => e' = .returned (.bool (ownB H k x y s e o)) ∧ Below w.heap.size w w'
  rw [hz.out]
  by_cases ho : o = -1
  · have go : (o == -1) = true := by simpa using ho
    have ez : (s != 3) = z := by rw [← hz.out, bne, ibeq]; simp [ownB, ho]
    clear ho
    go_enter Try.func43, Try.ntmps43
    go_wp2_with (first | (refine wpList_box_v rfl 29 _ rfl (hv ⟨k, x, y, s, l, e, o, t⟩) rfl ?_; intro b1 w1 hb1 hw1 hB1 hV1; have hz1 := hB1.size; have hb : HB w1 b1 ⟨k, x, y, s, l, e, o, t⟩ := ⟨hV1⟩; obtain ⟨c0, c1, c2, c3, c4, c5, c6, c7⟩ := hb.cells) | (fail))
    go_ret
    exact ⟨by simp, hB1⟩
  have go : (o == -1) = false := by simpa using ho
  by_cases hk : k = 1
  · have gk : (k != 1) = false := by simpa using hk
    by_cases hp : has H o
    · have HH : Hid (decide (has H o) = true) := decide_eq_true hp
      obtain ⟨i, rfl⟩ : ∃ i : Nat, o = i := ⟨o.toNat, by have := hp.1; omega⟩
      have hi1 : i < H.length := by have := hp.2; omega
      have hi1' : (i : Int) < H.length := by omega
      have en := nth_nat H i hi1
      obtain ⟨b, off, rfl, hbh, e0, e1, e2, e3⟩ := R.out.cell i hi1
      obtain ⟨q, hq⟩ := hid_ex (H[i])
      rw [hq.out] at e0 e1 e2 e3
      by_cases hx : q.key = x
      · have gx : (q.key != x) = false := by simpa using hx
        by_cases hy : q.value = y
        · have gy : (q.value != y) = false := by simpa using hy
          by_cases h5 : s = 5
          · have g5 : (s == 5) = true := by simpa using h5
            have ez : z = true := by rw [← hz.out]; simp [ownB, ho, hk, hp, en, hq.out, hx, hy, h5]
            clear ho hk hp hx hy h5
            subst ez
            go_enter Try.func43, Try.ntmps43
            go_wp2_with (first | (refine wpList_box_v rfl 29 _ rfl (hv ⟨k, x, y, s, l, e, (i : Int), t⟩) rfl ?_; intro b1 w1 hb1 hw1 hB1 hV1; have hz1 := hB1.size; have hb : HB w1 b1 ⟨k, x, y, s, l, e, (i : Int), t⟩ := ⟨hV1⟩; obtain ⟨c0, c1, c2, c3, c4, c5, c6, c7⟩ := hb.cells) | (fail))
            have f0 := (World.cell?_of_block (w := w) (w' := w1) (a := ⟨b, off + i * 4, none⟩) (hB1.block b (by omega))).trans e0
            have f1 := (World.cell?_of_block (w := w) (w' := w1) (a := ⟨b, off + i * 4 + 1, none⟩) (hB1.block b (by omega))).trans e1
            have f2 := (World.cell?_of_block (w := w) (w' := w1) (a := ⟨b, off + i * 4 + 2, none⟩) (hB1.block b (by omega))).trans e2
            have f3 := (World.cell?_of_block (w := w) (w' := w1) (a := ⟨b, off + i * 4 + 3, none⟩) (hB1.block b (by omega))).trans e3
            try go_frame
            go_big_quiet (first | (go_at_call 64; exact Calls.quiet_of_same (has_is H (i : Int) _ _ hl _ HH.out _)) | (fail))
            go_wp2
            go_ret
            exact ⟨rfl, hB1.trans (below_drewN _ _)⟩
          · have g5 : (s == 5) = false := by simpa using h5
            cases hg : q.gone with
            | true =>
              have ez : z = false := by rw [← hz.out]; simp [ownB, ho, hk, hp, en, hq.out, hx, hy, h5, hg]
              rw [hg] at e3
              clear ho hk hp hx hy h5
              subst ez
              go_enter Try.func43, Try.ntmps43
              go_wp2_with (first | (refine wpList_box_v rfl 29 _ rfl (hv ⟨k, x, y, s, l, e, (i : Int), t⟩) rfl ?_; intro b1 w1 hb1 hw1 hB1 hV1; have hz1 := hB1.size; have hb : HB w1 b1 ⟨k, x, y, s, l, e, (i : Int), t⟩ := ⟨hV1⟩; obtain ⟨c0, c1, c2, c3, c4, c5, c6, c7⟩ := hb.cells) | (fail))
              have f0 := (World.cell?_of_block (w := w) (w' := w1) (a := ⟨b, off + i * 4, none⟩) (hB1.block b (by omega))).trans e0
              have f1 := (World.cell?_of_block (w := w) (w' := w1) (a := ⟨b, off + i * 4 + 1, none⟩) (hB1.block b (by omega))).trans e1
              have f2 := (World.cell?_of_block (w := w) (w' := w1) (a := ⟨b, off + i * 4 + 2, none⟩) (hB1.block b (by omega))).trans e2
              have f3 := (World.cell?_of_block (w := w) (w' := w1) (a := ⟨b, off + i * 4 + 3, none⟩) (hB1.block b (by omega))).trans e3
              try go_frame
              go_big_quiet (first | (go_at_call 64; exact Calls.quiet_of_same (has_is H (i : Int) _ _ hl _ HH.out _)) | (fail))
              go_wp2
              try go_frame
              go_big_quiet (fail)
              go_wp2
              go_ret
              exact ⟨rfl, (hB1.trans (below_drewN _ _)).trans (below_drewN _ _)⟩
            | false =>
              rw [hg] at e3
              by_cases hc : (i : Int) ∈ chain H
              · have CC : Hid (decide ((i : Int) ∈ chain H) = true) := decide_eq_true hc
                have ez : z = false := by rw [← hz.out]; simp [ownB, ho, hk, hp, en, hq.out, hx, hy, h5, hc]
                clear ho hk hp hx hy h5 hc
                subst ez
                go_enter Try.func43, Try.ntmps43
                go_wp2_with (first | (refine wpList_box_v rfl 29 _ rfl (hv ⟨k, x, y, s, l, e, (i : Int), t⟩) rfl ?_; intro b1 w1 hb1 hw1 hB1 hV1; have hz1 := hB1.size; have hb : HB w1 b1 ⟨k, x, y, s, l, e, (i : Int), t⟩ := ⟨hV1⟩; obtain ⟨c0, c1, c2, c3, c4, c5, c6, c7⟩ := hb.cells) | (fail))
                have f0 := (World.cell?_of_block (w := w) (w' := w1) (a := ⟨b, off + i * 4, none⟩) (hB1.block b (by omega))).trans e0
                have f1 := (World.cell?_of_block (w := w) (w' := w1) (a := ⟨b, off + i * 4 + 1, none⟩) (hB1.block b (by omega))).trans e1
                have f2 := (World.cell?_of_block (w := w) (w' := w1) (a := ⟨b, off + i * 4 + 2, none⟩) (hB1.block b (by omega))).trans e2
                have f3 := (World.cell?_of_block (w := w) (w' := w1) (a := ⟨b, off + i * 4 + 3, none⟩) (hB1.block b (by omega))).trans e3
                try go_frame
                go_big_quiet (first | (go_at_call 64; exact Calls.quiet_of_same (has_is H (i : Int) _ _ hl _ HH.out _)) | (fail))
                go_wp2_with (first | (go_at_call 65; refine (inChain_any H HO.out (i : Int) _ hi _ (by show hi ≤ w1.heap.size; omega) ((R.out.below hB1 hh).drewN _)).mono ?_; rintro er w3 ⟨rfl, hB3⟩; rw [CC.out]; have hz3 : w1.heap.size ≤ w3.heap.size := hB3.size; replace hb := hb.of (w' := w3) (hB3.block b1 (by show b1 < w1.heap.size; omega)); clear c0 c1 c2 c3 c4 c5 c6 c7; obtain ⟨c0, c1, c2, c3, c4, c5, c6, c7⟩ := hb.cells; have hB : Below w.heap.size w w3 := (hB1.trans (below_drewN _ _)).trans (hB3.mono (by show w.heap.size ≤ w1.heap.size; omega)); have f2 := (World.cell?_of_block (w := w) (w' := w3) (a := ⟨b, off + i * 4 + 2, none⟩) (hB.block b (by omega))).trans e2) | (fail))
                try go_frame
                go_big_quiet (fail)
                go_wp2
                go_ret
                exact ⟨rfl, hB.trans (below_drewN _ _)⟩
              · have CC : Hid (decide ((i : Int) ∈ chain H) = false) := decide_eq_false hc
                by_cases h3 : s = 3
                · have g3 : (s != 3) = false := by simpa using h3
                  have ez : (q.next == e) = z := by rw [← hz.out, ibeq]; simp [ownB, ho, hk, hp, en, hq.out, hx, hy, hg, hc, h3]
                  clear ho hk hp hx hy h5 hc h3
                  go_enter Try.func43, Try.ntmps43
                  go_wp2_with (first | (refine wpList_box_v rfl 29 _ rfl (hv ⟨k, x, y, s, l, e, (i : Int), t⟩) rfl ?_; intro b1 w1 hb1 hw1 hB1 hV1; have hz1 := hB1.size; have hb : HB w1 b1 ⟨k, x, y, s, l, e, (i : Int), t⟩ := ⟨hV1⟩; obtain ⟨c0, c1, c2, c3, c4, c5, c6, c7⟩ := hb.cells) | (fail))
                  have f0 := (World.cell?_of_block (w := w) (w' := w1) (a := ⟨b, off + i * 4, none⟩) (hB1.block b (by omega))).trans e0
                  have f1 := (World.cell?_of_block (w := w) (w' := w1) (a := ⟨b, off + i * 4 + 1, none⟩) (hB1.block b (by omega))).trans e1
                  have f2 := (World.cell?_of_block (w := w) (w' := w1) (a := ⟨b, off + i * 4 + 2, none⟩) (hB1.block b (by omega))).trans e2
                  have f3 := (World.cell?_of_block (w := w) (w' := w1) (a := ⟨b, off + i * 4 + 3, none⟩) (hB1.block b (by omega))).trans e3
                  try go_frame
                  go_big_quiet (first | (go_at_call 64; exact Calls.quiet_of_same (has_is H (i : Int) _ _ hl _ HH.out _)) | (fail))
                  go_wp2_with (first | (go_at_call 65; refine (inChain_any H HO.out (i : Int) _ hi _ (by show hi ≤ w1.heap.size; omega) ((R.out.below hB1 hh).drewN _)).mono ?_; rintro er w3 ⟨rfl, hB3⟩; rw [CC.out]; have hz3 : w1.heap.size ≤ w3.heap.size := hB3.size; replace hb := hb.of (w' := w3) (hB3.block b1 (by show b1 < w1.heap.size; omega)); clear c0 c1 c2 c3 c4 c5 c6 c7; obtain ⟨c0, c1, c2, c3, c4, c5, c6, c7⟩ := hb.cells; have hB : Below w.heap.size w w3 := (hB1.trans (below_drewN _ _)).trans (hB3.mono (by show w.heap.size ≤ w1.heap.size; omega)); have f2 := (World.cell?_of_block (w := w) (w' := w3) (a := ⟨b, off + i * 4 + 2, none⟩) (hB.block b (by omega))).trans e2) | (fail))
                  try go_frame
                  go_big_quiet (fail)
                  go_wp2
                  go_ret
                  exact ⟨by simp, hB.trans (below_drewN _ _)⟩
                · have g3 : (s != 3) = true := by simpa using h3
                  have ez : z = true := by rw [← hz.out]; simp [ownB, ho, hk, hp, en, hq.out, hx, hy, hg, hc, h3]
                  clear ho hk hp hx hy h5 hc h3
                  subst ez
                  go_enter Try.func43, Try.ntmps43
                  go_wp2_with (first | (refine wpList_box_v rfl 29 _ rfl (hv ⟨k, x, y, s, l, e, (i : Int), t⟩) rfl ?_; intro b1 w1 hb1 hw1 hB1 hV1; have hz1 := hB1.size; have hb : HB w1 b1 ⟨k, x, y, s, l, e, (i : Int), t⟩ := ⟨hV1⟩; obtain ⟨c0, c1, c2, c3, c4, c5, c6, c7⟩ := hb.cells) | (fail))
                  have f0 := (World.cell?_of_block (w := w) (w' := w1) (a := ⟨b, off + i * 4, none⟩) (hB1.block b (by omega))).trans e0
                  have f1 := (World.cell?_of_block (w := w) (w' := w1) (a := ⟨b, off + i * 4 + 1, none⟩) (hB1.block b (by omega))).trans e1
                  have f2 := (World.cell?_of_block (w := w) (w' := w1) (a := ⟨b, off + i * 4 + 2, none⟩) (hB1.block b (by omega))).trans e2
                  have f3 := (World.cell?_of_block (w := w) (w' := w1) (a := ⟨b, off + i * 4 + 3, none⟩) (hB1.block b (by omega))).trans e3
                  try go_frame
                  go_big_quiet (first | (go_at_call 64; exact Calls.quiet_of_same (has_is H (i : Int) _ _ hl _ HH.out _)) | (fail))
                  go_wp2_with (first | (go_at_call 65; refine (inChain_any H HO.out (i : Int) _ hi _ (by show hi ≤ w1.heap.size; omega) ((R.out.below hB1 hh).drewN _)).mono ?_; rintro er w3 ⟨rfl, hB3⟩; rw [CC.out]; have hz3 : w1.heap.size ≤ w3.heap.size := hB3.size; replace hb := hb.of (w' := w3) (hB3.block b1 (by show b1 < w1.heap.size; omega)); clear c0 c1 c2 c3 c4 c5 c6 c7; obtain ⟨c0, c1, c2, c3, c4, c5, c6, c7⟩ := hb.cells; have hB : Below w.heap.size w w3 := (hB1.trans (below_drewN _ _)).trans (hB3.mono (by show w.heap.size ≤ w1.heap.size; omega)); have f2 := (World.cell?_of_block (w := w) (w' := w3) (a := ⟨b, off + i * 4 + 2, none⟩) (hB.block b (by omega))).trans e2) | (fail))
                  try go_frame
                  go_big_quiet (fail)
                  go_wp2
                  go_ret
                  exact ⟨rfl, hB.trans (below_drewN _ _)⟩
        · have gy : (q.value != y) = true := by simpa using hy
          have ez : z = false := by rw [← hz.out]; simp [ownB, ho, hk, hp, en, hq.out, hx, hy]
          clear ho hk hp hx hy
          subst ez
          go_enter Try.func43, Try.ntmps43
          go_wp2_with (first | (refine wpList_box_v rfl 29 _ rfl (hv ⟨k, x, y, s, l, e, (i : Int), t⟩) rfl ?_; intro b1 w1 hb1 hw1 hB1 hV1; have hz1 := hB1.size; have hb : HB w1 b1 ⟨k, x, y, s, l, e, (i : Int), t⟩ := ⟨hV1⟩; obtain ⟨c0, c1, c2, c3, c4, c5, c6, c7⟩ := hb.cells) | (fail))
          have f0 := (World.cell?_of_block (w := w) (w' := w1) (a := ⟨b, off + i * 4, none⟩) (hB1.block b (by omega))).trans e0
          have f1 := (World.cell?_of_block (w := w) (w' := w1) (a := ⟨b, off + i * 4 + 1, none⟩) (hB1.block b (by omega))).trans e1
          have f2 := (World.cell?_of_block (w := w) (w' := w1) (a := ⟨b, off + i * 4 + 2, none⟩) (hB1.block b (by omega))).trans e2
          have f3 := (World.cell?_of_block (w := w) (w' := w1) (a := ⟨b, off + i * 4 + 3, none⟩) (hB1.block b (by omega))).trans e3
          try go_frame
          go_big_quiet (first | (go_at_call 64; exact Calls.quiet_of_same (has_is H (i : Int) _ _ hl _ HH.out _)) | (fail))
          go_wp2
          go_ret
          exact ⟨rfl, hB1.trans (below_drewN _ _)⟩
      · have gx : (q.key != x) = true := by simpa using hx
        have ez : z = false := by rw [← hz.out]; simp [ownB, ho, hk, hp, en, hq.out, hx]
        clear ho hk hp hx
        subst ez
        go_enter Try.func43, Try.ntmps43
        go_wp2_with (first | (refine wpList_box_v rfl 29 _ rfl (hv ⟨k, x, y, s, l, e, (i : Int), t⟩) rfl ?_; intro b1 w1 hb1 hw1 hB1 hV1; have hz1 := hB1.size; have hb : HB w1 b1 ⟨k, x, y, s, l, e, (i : Int), t⟩ := ⟨hV1⟩; obtain ⟨c0, c1, c2, c3, c4, c5, c6, c7⟩ := hb.cells) | (fail))
        have f0 := (World.cell?_of_block (w := w) (w' := w1) (a := ⟨b, off + i * 4, none⟩) (hB1.block b (by omega))).trans e0
        have f1 := (World.cell?_of_block (w := w) (w' := w1) (a := ⟨b, off + i * 4 + 1, none⟩) (hB1.block b (by omega))).trans e1
        have f2 := (World.cell?_of_block (w := w) (w' := w1) (a := ⟨b, off + i * 4 + 2, none⟩) (hB1.block b (by omega))).trans e2
        have f3 := (World.cell?_of_block (w := w) (w' := w1) (a := ⟨b, off + i * 4 + 3, none⟩) (hB1.block b (by omega))).trans e3
        try go_frame
        go_big_quiet (first | (go_at_call 64; exact Calls.quiet_of_same (has_is H (i : Int) _ _ hl _ HH.out _)) | (fail))
        go_wp2
        go_ret
        exact ⟨rfl, hB1.trans (below_drewN _ _)⟩
    · have HH : Hid (decide (has H o) = false) := decide_eq_false hp
      have ez : z = false := by rw [← hz.out]; simp [ownB, ho, hk, hp]
      clear ho hk hp
      subst ez
      go_enter Try.func43, Try.ntmps43
      go_wp2_with (first | (refine wpList_box_v rfl 29 _ rfl (hv ⟨k, x, y, s, l, e, o, t⟩) rfl ?_; intro b1 w1 hb1 hw1 hB1 hV1; have hz1 := hB1.size; have hb : HB w1 b1 ⟨k, x, y, s, l, e, o, t⟩ := ⟨hV1⟩; obtain ⟨c0, c1, c2, c3, c4, c5, c6, c7⟩ := hb.cells) | (fail))
      try go_frame
      go_big_quiet (first | (go_at_call 64; exact Calls.quiet_of_same (has_is H o _ _ hl _ HH.out _)) | (fail))
      go_wp2
      go_ret
      exact ⟨rfl, hB1.trans (below_drewN _ _)⟩
  · have gk : (k != 1) = true := by simpa using hk
    have ez : z = false := by rw [← hz.out]; simp [ownB, ho, hk]
    clear ho hk
    subst ez
    go_enter Try.func43, Try.ntmps43
    go_wp2_with (first | (refine wpList_box_v rfl 29 _ rfl (hv ⟨k, x, y, s, l, e, o, t⟩) rfl ?_; intro b1 w1 hb1 hw1 hB1 hV1; have hz1 := hB1.size; have hb : HB w1 b1 ⟨k, x, y, s, l, e, o, t⟩ := ⟨hV1⟩; obtain ⟨c0, c1, c2, c3, c4, c5, c6, c7⟩ := hb.cells) | (fail))
    try go_frame
    go_big_quiet (fail)
    go_wp2
    go_ret
    exact ⟨rfl, hB1.trans (below_drewN _ _)⟩
end Go.Proofs.Ytodpbghkjnlfdaa.ce
/- Contract of l5In; whether a hand is right, as a Bool. -/
namespace Go.Proofs.Ytodpbghkjnlfdaa.ce
open Go.ChangeShapes Go.WideShapes Go.ChangeAt Go.RowKit
set_option linter.unusedVariables false

theorem l5In_any (xs : List Int) (n : Int) (v : Value) (hi : Nat) (w : World) (r : RdI w hi v xs) :
    Calls Try.prog 58 #[v, .int .i64 n] w fun e w' => e = .returned (.bool (decide (n ∈ xs))) ∧ w' = w := by
  have hl := r.len
  obtain ⟨a, cap, rfl⟩ := r.form
  have R : Hid (RdI w hi (.slice a xs.length cap) xs) := r
  clear r
  obtain ⟨y, hy⟩ := hid_ex (decide (n ∈ xs))
  rw [hy.out]
  go_enter Try.func58, Try.ntmps58
  go_wp2
  go_loop [5] (fun p => ∃ i : Nat, i ≤ xs.length ∧ p = .int .i64 i ∧ Hid (n ∉ xs.take i)) (fun p => xs.length - (intOf p).toNat)
  case atStart => exact ⟨0, by omega, rfl, (by unfold Hid; simp)⟩
  case round =>
    obtain ⟨i, hi1, rfl, hno⟩ := hrel
    by_cases hlt : i < xs.length
    · obtain ⟨b, off, rfl, hb, d0⟩ := R.out.cell i hlt
      have hlt' : (i : Int) < xs.length := by omega
      obtain ⟨z, hz⟩ := hid_ex (xs[i])
      rw [hz.out] at d0
      by_cases he : z = n
      · have hb : (z == n) = true := by simpa using he
        have ey : y = true := by rw [← hy.out]; exact decide_eq_true (by rw [← he, ← hz.out]; exact List.getElem_mem hlt)
        subst ey
        go_wp2
        go_ret
        exact ⟨rfl, rfl⟩
      · have hb : (z == n) = false := by simpa using he
        have hno2 : Hid (n ∉ xs.take (i + 1)) := by
          unfold Hid
          rw [List.take_succ_eq_append_getElem hlt, List.mem_append, hz.out, List.mem_singleton]
          rintro (h | h)
          · exact hno.out h
          · exact he h.symm
        go_wp2
        go_round
        case rel => exact ⟨i + 1, by omega, by go_num, hno2⟩
        case measure => simp [intOf]; omega
    · have ei : i = xs.length := by omega
      have hlt' : ¬ (i : Int) < xs.length := by omega
      have ey : y = false := by
        have h := hno.out
        rw [ei, List.take_length] at h
        rw [← hy.out]; exact decide_eq_false h
      subst ey
      go_wp2
      go_ret
      exact ⟨rfl, rfl⟩

open Classical in
/-- is the hand right -/
noncomputable def okB (H : List C) (d : Hd) : Bool := decide (OkH H d)
open Classical in
theorem okB_true {H : List C} {d : Hd} (h : OkH H d) : okB H d = true := by unfold okB; exact decide_eq_true h
open Classical in
theorem okB_false {H : List C} {d : Hd} (h : ¬ OkH H d) : okB H d = false := by unfold okB; exact decide_eq_false h
open Classical in
theorem okB_iff {H : List C} {d : Hd} : okB H d = true ↔ OkH H d := by unfold okB; simp
/-- the hand's cells in a box, as a walk wants them -/
theorem HB.of_below {w w' : World} {B q : Nat} {d : Hd} (b : HB w q d) (h : Below B w w') (hq : q < B) : HB w' q d := b.of (h.block q hq)
end Go.Proofs.Ytodpbghkjnlfdaa.ce
/- Contract of l5Ok (written by genok.py): numbers out of range. -/
namespace Go.Proofs.Ytodpbghkjnlfdaa.ce
open Go.ChangeShapes Go.WideShapes Go.ChangeAt Go.RowKit
set_option linter.unusedVariables false

set_option maxRecDepth 100000 in
set_option maxHeartbeats 4000000 in
theorem ok_range (H : List C) (hok : heapOk H) (k x y s l e o t : Int) (v : Value) (hi : Nat) (w : World) (hh : hi ≤ w.heap.size) (r : Rd w hi v H) (hbad : ¬ ((1 ≤ k ∧ k ≤ 3) ∧ (1 ≤ x ∧ x ≤ 65535) ∧ (0 ≤ s ∧ s ≤ 5))) :
    Calls Try.prog 35 #[v, .agg (hv ⟨k, x, y, s, l, e, o, t⟩).toArray] w fun er w' => er = .returned (.bool (okB H ⟨k, x, y, s, l, e, o, t⟩)) ∧ Below w.heap.size w w' := by
  obtain ⟨a, cap, rfl⟩ := r.form
  have hl := r.len
  have R : Hid (Rd w hi (.slice a H.length cap) H) := r
  have HK : Hid (heapOk H) := hok
  have h1 := hok.1.1
  have h40 := hok.1.2
  obtain ⟨z, hz⟩ := hid_ex (okB H ⟨k, x, y, s, l, e, o, t⟩)
  rw [hz.out]
  have bad : Hid (¬ OkH H ⟨k, x, y, s, l, e, o, t⟩ → z = false) := fun h => by rw [← hz.out]; exact okB_false h
  have fine : Hid (OkH H ⟨k, x, y, s, l, e, o, t⟩ → z = true) := fun h => by rw [← hz.out]; exact okB_true h
  clear r hok hz
  have m1 : Hid True := trivial
  have m2 : Hid True := trivial
  have m3 : Hid True := trivial
  have m4 : Hid True := trivial
  have ez : z = false := bad.out fun h => hbad ⟨h.kind, h.key, h.step⟩
  subst ez
  clear bad fine
  by_cases hk : 1 ≤ k ∧ k ≤ 3
  · have fK : Hid (decide (1 ≤ k ∧ k ≤ 3) = true) := decide_eq_true hk
    by_cases hx : 1 ≤ x ∧ x ≤ 65535
    · have fX : Hid (decide (1 ≤ x ∧ x ≤ 65535) = true) := decide_eq_true hx
      have fS : Hid (decide (0 ≤ s ∧ s ≤ 5) = false) := decide_eq_false fun hs => hbad ⟨hk, hx, hs⟩
      clear hbad
      go_enter Try.func35, Try.ntmps35
      go_wp2_with (first | (refine wpList_box_v rfl 29 _ rfl (hv ⟨k, x, y, s, l, e, o, t⟩) rfl ?_; intro b3 w1 hb3 hw1 hB1 hV1; have hb : HB w1 b3 ⟨k, x, y, s, l, e, o, t⟩ := ⟨hV1⟩; obtain ⟨c0, c1, c2, c3, c4, c5, c6, c7⟩ := hb.cells; have hz1 := hB1.size) | (clear m1; go_at_call 57; refine (in_is k 1 3 _ fK.out _).mono ?_; rintro er wq ⟨rfl, hq⟩; subst wq) | (clear m2; go_at_call 57; refine (in_is x 1 65535 _ fX.out _).mono ?_; rintro er wq ⟨rfl, hq⟩; subst wq) | (clear m3; go_at_call 57; refine (in_is s 0 5 _ fS.out _).mono ?_; rintro er wq ⟨rfl, hq⟩; subst wq) | (fail))
      go_ret
      exact ⟨rfl, hB1⟩
    · have fX : Hid (decide (1 ≤ x ∧ x ≤ 65535) = false) := decide_eq_false hx
      clear hbad
      go_enter Try.func35, Try.ntmps35
      go_wp2_with (first | (refine wpList_box_v rfl 29 _ rfl (hv ⟨k, x, y, s, l, e, o, t⟩) rfl ?_; intro b3 w1 hb3 hw1 hB1 hV1; have hb : HB w1 b3 ⟨k, x, y, s, l, e, o, t⟩ := ⟨hV1⟩; obtain ⟨c0, c1, c2, c3, c4, c5, c6, c7⟩ := hb.cells; have hz1 := hB1.size) | (clear m1; go_at_call 57; refine (in_is k 1 3 _ fK.out _).mono ?_; rintro er wq ⟨rfl, hq⟩; subst wq) | (clear m2; go_at_call 57; refine (in_is x 1 65535 _ fX.out _).mono ?_; rintro er wq ⟨rfl, hq⟩; subst wq) | (fail))
      go_ret
      exact ⟨rfl, hB1⟩
  · have fK : Hid (decide (1 ≤ k ∧ k ≤ 3) = false) := decide_eq_false hk
    clear hbad
    go_enter Try.func35, Try.ntmps35
    go_wp2_with (first | (refine wpList_box_v rfl 29 _ rfl (hv ⟨k, x, y, s, l, e, o, t⟩) rfl ?_; intro b3 w1 hb3 hw1 hB1 hV1; have hb : HB w1 b3 ⟨k, x, y, s, l, e, o, t⟩ := ⟨hV1⟩; obtain ⟨c0, c1, c2, c3, c4, c5, c6, c7⟩ := hb.cells; have hz1 := hB1.size) | (clear m1; go_at_call 57; refine (in_is k 1 3 _ fK.out _).mono ?_; rintro er wq ⟨rfl, hq⟩; subst wq) | (fail))
    go_ret
    exact ⟨rfl, hB1⟩

end Go.Proofs.Ytodpbghkjnlfdaa.ce
