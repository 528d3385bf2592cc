/- Contracts: the program's ownRight. -/
import Derived.Test.YtnjeepmbkogaeaaIh4
namespace Go.Proofs.Ytnjeepmbkogaeaa.ce
open Go.ChangeShapes Go.WideShapes Go.ChangeAt Go.RowKit
set_option linter.unusedVariables false
open Go.Proofs.Ytnjeepmbkogaeaa.it
theorem has_is (H : List C) (p : Int) (a : Option Addr) (cap : Nat) (hl : H.length ≤ 9223372036854775807) (z : Bool) (hz : decide (has H p) = z) (w : World) :
    Calls Try.prog 64 #[.slice a H.length cap, .int .i64 p] w fun e w' => e = .returned (.bool z) ∧ w' = w := by
  rw [← hz]; exact has_any H p a cap hl w
def ownB (H : List C) (k x y s e o : Int) : Bool := if o = -1 then decide (s ≠ 3) else decide (k = 1 ∧ has H o ∧ (nth H o).key = x ∧ (nth H o).value = y ∧ (s = 5 ∨ ((nth H o).gone = false ∧ o ∉ chain H ∧ (s = 3 → (nth H o).next = e))))

set_option maxRecDepth 100000 in
set_option maxHeartbeats 4000000 in
theorem ownRight_any (H : List C) (hok : heapOk H) (d : Hd) (v : Value) (hi : Nat) (w : World) (hh : hi ≤ w.heap.size) (r : Rd w hi v H) :
    Calls Try.prog 43 #[v, .agg (hv d).toArray] w fun e w' => e = .returned (.bool (ownB H d.kind d.key d.value d.step d.here d.own)) ∧ Below w.heap.size w w' := by
  have hl := r.len
  obtain ⟨a, cap, rfl⟩ := r.form
  have R : Hid (Rd w hi (.slice a H.length cap) H) := r
  have HO : Hid (heapOk H) := hok
  clear r hok
  obtain ⟨k, x, y, s, l, e, o, t⟩ := d
  obtain ⟨z, hz⟩ := hid_ex (ownB H k x y s e o)
  show Calls Try.prog 43 _ w fun e' w' => e' = .returned (.bool (ownB H k x y s e o)) ∧ Below w.heap.size w w'
  rw [hz.out]
  by_cases ho : o = -1
  · have go : (o == -1) = true := by simpa using ho
    have ez : (s != 3) = z := by rw [← hz.out, bne, ibeq]; simp [ownB, ho]
    clear ho
    go_enter Try.func43, Try.ntmps43
    go_wp2_with (first | (refine wpList_box_v rfl 29 _ rfl (hv ⟨k, x, y, s, l, e, o, t⟩) rfl ?_; intro b1 w1 hb1 hw1 hB1 hV1; have hz1 := hB1.size; have hb : HB w1 b1 ⟨k, x, y, s, l, e, o, t⟩ := ⟨hV1⟩; obtain ⟨c0, c1, c2, c3, c4, c5, c6, c7⟩ := hb.cells) | (fail))
    go_ret
    exact ⟨by simp, hB1⟩
  have go : (o == -1) = false := by simpa using ho
  by_cases hk : k = 1
  · have gk : (k != 1) = false := by simpa using hk
    by_cases hp : has H o
    · have HH : Hid (decide (has H o) = true) := decide_eq_true hp
      obtain ⟨i, rfl⟩ : ∃ i : Nat, o = i := ⟨o.toNat, by have := hp.1; omega⟩
      have hi1 : i < H.length := by have := hp.2; omega
      have hi1' : (i : Int) < H.length := by omega
      have en := nth_nat H i hi1
      obtain ⟨b, off, rfl, hbh, e0, e1, e2, e3⟩ := R.out.cell i hi1
      obtain ⟨q, hq⟩ := hid_ex (H[i])
      rw [hq.out] at e0 e1 e2 e3
      by_cases hx : q.key = x
      · have gx : (q.key != x) = false := by simpa using hx
        by_cases hy : q.value = y
        · have gy : (q.value != y) = false := by simpa using hy
          by_cases h5 : s = 5
          · have g5 : (s == 5) = true := by simpa using h5
            have ez : z = true := by rw [← hz.out]; simp [ownB, ho, hk, hp, en, hq.out, hx, hy, h5]
            clear ho hk hp hx hy h5
            subst ez
            go_enter Try.func43, Try.ntmps43
            go_wp2_with (first | (refine wpList_box_v rfl 29 _ rfl (hv ⟨k, x, y, s, l, e, (i : Int), t⟩) rfl ?_; intro b1 w1 hb1 hw1 hB1 hV1; have hz1 := hB1.size; have hb : HB w1 b1 ⟨k, x, y, s, l, e, (i : Int), t⟩ := ⟨hV1⟩; obtain ⟨c0, c1, c2, c3, c4, c5, c6, c7⟩ := hb.cells) | (fail))
            have f0 := (World.cell?_of_block (w := w) (w' := w1) (a := ⟨b, off + i * 4, none⟩) (hB1.block b (by omega))).trans e0
            have f1 := (World.cell?_of_block (w := w) (w' := w1) (a := ⟨b, off + i * 4 + 1, none⟩) (hB1.block b (by omega))).trans e1
            have f2 := (World.cell?_of_block (w := w) (w' := w1) (a := ⟨b, off + i * 4 + 2, none⟩) (hB1.block b (by omega))).trans e2
            have f3 := (World.cell?_of_block (w := w) (w' := w1) (a := ⟨b, off + i * 4 + 3, none⟩) (hB1.block b (by omega))).trans e3
            try go_frame
            go_big_quiet (first | (go_at_call 64; exact Calls.quiet_of_same (has_is H (i : Int) _ _ hl _ HH.out _)) | (fail))
            go_wp2
            go_ret
            exact ⟨rfl, hB1.trans (below_drewN _ _)⟩
          · have g5 : (s == 5) = false := by simpa using h5
            cases hg : q.gone with
            | true =>
              have ez : z = false := by rw [← hz.out]; simp [ownB, ho, hk, hp, en, hq.out, hx, hy, h5, hg]
              rw [hg] at e3
              clear ho hk hp hx hy h5
              subst ez
              go_enter Try.func43, Try.ntmps43
              go_wp2_with (first | (refine wpList_box_v rfl 29 _ rfl (hv ⟨k, x, y, s, l, e, (i : Int), t⟩) rfl ?_; intro b1 w1 hb1 hw1 hB1 hV1; have hz1 := hB1.size; have hb : HB w1 b1 ⟨k, x, y, s, l, e, (i : Int), t⟩ := ⟨hV1⟩; obtain ⟨c0, c1, c2, c3, c4, c5, c6, c7⟩ := hb.cells) | (fail))
              have f0 := (World.cell?_of_block (w := w) (w' := w1) (a := ⟨b, off + i * 4, none⟩) (hB1.block b (by omega))).trans e0
              have f1 := (World.cell?_of_block (w := w) (w' := w1) (a := ⟨b, off + i * 4 + 1, none⟩) (hB1.block b (by omega))).trans e1
              have f2 := (World.cell?_of_block (w := w) (w' := w1) (a := ⟨b, off + i * 4 + 2, none⟩) (hB1.block b (by omega))).trans e2
              have f3 := (World.cell?_of_block (w := w) (w' := w1) (a := ⟨b, off + i * 4 + 3, none⟩) (hB1.block b (by omega))).trans e3
              try go_frame
              go_big_quiet (first | (go_at_call 64; exact Calls.quiet_of_same (has_is H (i : Int) _ _ hl _ HH.out _)) | (fail))
              go_wp2
              try go_frame
              go_big_quiet (fail)
              go_wp2
              go_ret
              exact ⟨rfl, (hB1.trans (below_drewN _ _)).trans (below_drewN _ _)⟩
            | false =>
              rw [hg] at e3
              by_cases hc : (i : Int) ∈ chain H
              · have CC : Hid (decide ((i : Int) ∈ chain H) = true) := decide_eq_true hc
                have ez : z = false := by rw [← hz.out]; simp [ownB, ho, hk, hp, en, hq.out, hx, hy, h5, hc]
                clear ho hk hp hx hy h5 hc
                subst ez
                go_enter Try.func43, Try.ntmps43
                go_wp2_with (first | (refine wpList_box_v rfl 29 _ rfl (hv ⟨k, x, y, s, l, e, (i : Int), t⟩) rfl ?_; intro b1 w1 hb1 hw1 hB1 hV1; have hz1 := hB1.size; have hb : HB w1 b1 ⟨k, x, y, s, l, e, (i : Int), t⟩ := ⟨hV1⟩; obtain ⟨c0, c1, c2, c3, c4, c5, c6, c7⟩ := hb.cells) | (fail))
                have f0 := (World.cell?_of_block (w := w) (w' := w1) (a := ⟨b, off + i * 4, none⟩) (hB1.block b (by omega))).trans e0
                have f1 := (World.cell?_of_block (w := w) (w' := w1) (a := ⟨b, off + i * 4 + 1, none⟩) (hB1.block b (by omega))).trans e1
                have f2 := (World.cell?_of_block (w := w) (w' := w1) (a := ⟨b, off + i * 4 + 2, none⟩) (hB1.block b (by omega))).trans e2
                have f3 := (World.cell?_of_block (w := w) (w' := w1) (a := ⟨b, off + i * 4 + 3, none⟩) (hB1.block b (by omega))).trans e3
                try go_frame
                go_big_quiet (first | (go_at_call 64; exact Calls.quiet_of_same (has_is H (i : Int) _ _ hl _ HH.out _)) | (fail))
                go_wp2_with (first | (go_at_call 65; refine (inChain_any H HO.out (i : Int) _ hi _ (by show hi ≤ w1.heap.size; omega) ((R.out.below hB1 hh).drewN _)).mono ?_; rintro er w3 ⟨rfl, hB3⟩; rw [CC.out]; have hz3 : w1.heap.size ≤ w3.heap.size := hB3.size; replace hb := hb.of (w' := w3) (hB3.block b1 (by show b1 < w1.heap.size; omega)); clear c0 c1 c2 c3 c4 c5 c6 c7; obtain ⟨c0, c1, c2, c3, c4, c5, c6, c7⟩ := hb.cells; have hB : Below w.heap.size w w3 := (hB1.trans (below_drewN _ _)).trans (hB3.mono (by show w.heap.size ≤ w1.heap.size; omega)); have f2 := (World.cell?_of_block (w := w) (w' := w3) (a := ⟨b, off + i * 4 + 2, none⟩) (hB.block b (by omega))).trans e2) | (fail))
                try go_frame
                go_big_quiet (fail)
                go_wp2
                go_ret
                exact ⟨rfl, hB.trans (below_drewN _ _)⟩
              · have CC : Hid (decide ((i : Int) ∈ chain H) = false) := decide_eq_false hc
                by_cases h3 : s = 3
                · have g3 : (s != 3) = false := by simpa using h3
                  have ez : (q.next == e) = z := by rw [← hz.out, ibeq]; simp [ownB, ho, hk, hp, en, hq.out, hx, hy, hg, hc, h3]
                  clear ho hk hp hx hy h5 hc h3
                  go_enter Try.func43, Try.ntmps43
                  go_wp2_with (first | (refine wpList_box_v rfl 29 _ rfl (hv ⟨k, x, y, s, l, e, (i : Int), t⟩) rfl ?_; intro b1 w1 hb1 hw1 hB1 hV1; have hz1 := hB1.size; have hb : HB w1 b1 ⟨k, x, y, s, l, e, (i : Int), t⟩ := ⟨hV1⟩; obtain ⟨c0, c1, c2, c3, c4, c5, c6, c7⟩ := hb.cells) | (fail))
                  have f0 := (World.cell?_of_block (w := w) (w' := w1) (a := ⟨b, off + i * 4, none⟩) (hB1.block b (by omega))).trans e0
                  have f1 := (World.cell?_of_block (w := w) (w' := w1) (a := ⟨b, off + i * 4 + 1, none⟩) (hB1.block b (by omega))).trans e1
                  have f2 := (World.cell?_of_block (w := w) (w' := w1) (a := ⟨b, off + i * 4 + 2, none⟩) (hB1.block b (by omega))).trans e2
                  have f3 := (World.cell?_of_block (w := w) (w' := w1) (a := ⟨b, off + i * 4 + 3, none⟩) (hB1.block b (by omega))).trans e3
                  try go_frame
                  go_big_quiet (first | (go_at_call 64; exact Calls.quiet_of_same (has_is H (i : Int) _ _ hl _ HH.out _)) | (fail))
                  go_wp2_with (first | (go_at_call 65; refine (inChain_any H HO.out (i : Int) _ hi _ (by show hi ≤ w1.heap.size; omega) ((R.out.below hB1 hh).drewN _)).mono ?_; rintro er w3 ⟨rfl, hB3⟩; rw [CC.out]; have hz3 : w1.heap.size ≤ w3.heap.size := hB3.size; replace hb := hb.of (w' := w3) (hB3.block b1 (by show b1 < w1.heap.size; omega)); clear c0 c1 c2 c3 c4 c5 c6 c7; obtain ⟨c0, c1, c2, c3, c4, c5, c6, c7⟩ := hb.cells; have hB : Below w.heap.size w w3 := (hB1.trans (below_drewN _ _)).trans (hB3.mono (by show w.heap.size ≤ w1.heap.size; omega)); have f2 := (World.cell?_of_block (w := w) (w' := w3) (a := ⟨b, off + i * 4 + 2, none⟩) (hB.block b (by omega))).trans e2) | (fail))
                  try go_frame
                  go_big_quiet (fail)
                  go_wp2
                  go_ret
                  exact ⟨by simp, hB.trans (below_drewN _ _)⟩
                · have g3 : (s != 3) = true := by simpa using h3
                  have ez : z = true := by rw [← hz.out]; simp [ownB, ho, hk, hp, en, hq.out, hx, hy, hg, hc, h3]
                  clear ho hk hp hx hy h5 hc h3
                  subst ez
                  go_enter Try.func43, Try.ntmps43
                  go_wp2_with (first | (refine wpList_box_v rfl 29 _ rfl (hv ⟨k, x, y, s, l, e, (i : Int), t⟩) rfl ?_; intro b1 w1 hb1 hw1 hB1 hV1; have hz1 := hB1.size; have hb : HB w1 b1 ⟨k, x, y, s, l, e, (i : Int), t⟩ := ⟨hV1⟩; obtain ⟨c0, c1, c2, c3, c4, c5, c6, c7⟩ := hb.cells) | (fail))
                  have f0 := (World.cell?_of_block (w := w) (w' := w1) (a := ⟨b, off + i * 4, none⟩) (hB1.block b (by omega))).trans e0
                  have f1 := (World.cell?_of_block (w := w) (w' := w1) (a := ⟨b, off + i * 4 + 1, none⟩) (hB1.block b (by omega))).trans e1
                  have f2 := (World.cell?_of_block (w := w) (w' := w1) (a := ⟨b, off + i * 4 + 2, none⟩) (hB1.block b (by omega))).trans e2
                  have f3 := (World.cell?_of_block (w := w) (w' := w1) (a := ⟨b, off + i * 4 + 3, none⟩) (hB1.block b (by omega))).trans e3
                  try go_frame
                  go_big_quiet (first | (go_at_call 64; exact Calls.quiet_of_same (has_is H (i : Int) _ _ hl _ HH.out _)) | (fail))
                  go_wp2_with (first | (go_at_call 65; refine (inChain_any H HO.out (i : Int) _ hi _ (by show hi ≤ w1.heap.size; omega) ((R.out.below hB1 hh).drewN _)).mono ?_; rintro er w3 ⟨rfl, hB3⟩; rw [CC.out]; have hz3 : w1.heap.size ≤ w3.heap.size := hB3.size; replace hb := hb.of (w' := w3) (hB3.block b1 (by show b1 < w1.heap.size; omega)); clear c0 c1 c2 c3 c4 c5 c6 c7; obtain ⟨c0, c1, c2, c3, c4, c5, c6, c7⟩ := hb.cells; have hB : Below w.heap.size w w3 := (hB1.trans (below_drewN _ _)).trans (hB3.mono (by show w.heap.size ≤ w1.heap.size; omega)); have f2 := (World.cell?_of_block (w := w) (w' := w3) (a := ⟨b, off + i * 4 + 2, none⟩) (hB.block b (by omega))).trans e2) | (fail))
                  try go_frame
                  go_big_quiet (fail)
                  go_wp2
                  go_ret
                  exact ⟨rfl, hB.trans (below_drewN _ _)⟩
        · have gy : (q.value != y) = true := by simpa using hy
          have ez : z = false := by rw [← hz.out]; simp [ownB, ho, hk, hp, en, hq.out, hx, hy]
          clear ho hk hp hx hy
          subst ez
          go_enter Try.func43, Try.ntmps43
          go_wp2_with (first | (refine wpList_box_v rfl 29 _ rfl (hv ⟨k, x, y, s, l, e, (i : Int), t⟩) rfl ?_; intro b1 w1 hb1 hw1 hB1 hV1; have hz1 := hB1.size; have hb : HB w1 b1 ⟨k, x, y, s, l, e, (i : Int), t⟩ := ⟨hV1⟩; obtain ⟨c0, c1, c2, c3, c4, c5, c6, c7⟩ := hb.cells) | (fail))
          have f0 := (World.cell?_of_block (w := w) (w' := w1) (a := ⟨b, off + i * 4, none⟩) (hB1.block b (by omega))).trans e0
          have f1 := (World.cell?_of_block (w := w) (w' := w1) (a := ⟨b, off + i * 4 + 1, none⟩) (hB1.block b (by omega))).trans e1
          have f2 := (World.cell?_of_block (w := w) (w' := w1) (a := ⟨b, off + i * 4 + 2, none⟩) (hB1.block b (by omega))).trans e2
          have f3 := (World.cell?_of_block (w := w) (w' := w1) (a := ⟨b, off + i * 4 + 3, none⟩) (hB1.block b (by omega))).trans e3
          try go_frame
          go_big_quiet (first | (go_at_call 64; exact Calls.quiet_of_same (has_is H (i : Int) _ _ hl _ HH.out _)) | (fail))
          go_wp2
          go_ret
          exact ⟨rfl, hB1.trans (below_drewN _ _)⟩
      · have gx : (q.key != x) = true := by simpa using hx
        have ez : z = false := by rw [← hz.out]; simp [ownB, ho, hk, hp, en, hq.out, hx]
        clear ho hk hp hx
        subst ez
        go_enter Try.func43, Try.ntmps43
        go_wp2_with (first | (refine wpList_box_v rfl 29 _ rfl (hv ⟨k, x, y, s, l, e, (i : Int), t⟩) rfl ?_; intro b1 w1 hb1 hw1 hB1 hV1; have hz1 := hB1.size; have hb : HB w1 b1 ⟨k, x, y, s, l, e, (i : Int), t⟩ := ⟨hV1⟩; obtain ⟨c0, c1, c2, c3, c4, c5, c6, c7⟩ := hb.cells) | (fail))
        have f0 := (World.cell?_of_block (w := w) (w' := w1) (a := ⟨b, off + i * 4, none⟩) (hB1.block b (by omega))).trans e0
        have f1 := (World.cell?_of_block (w := w) (w' := w1) (a := ⟨b, off + i * 4 + 1, none⟩) (hB1.block b (by omega))).trans e1
        have f2 := (World.cell?_of_block (w := w) (w' := w1) (a := ⟨b, off + i * 4 + 2, none⟩) (hB1.block b (by omega))).trans e2
        have f3 := (World.cell?_of_block (w := w) (w' := w1) (a := ⟨b, off + i * 4 + 3, none⟩) (hB1.block b (by omega))).trans e3
        try go_frame
        go_big_quiet (first | (go_at_call 64; exact Calls.quiet_of_same (has_is H (i : Int) _ _ hl _ HH.out _)) | (fail))
        go_wp2
        go_ret
        exact ⟨rfl, hB1.trans (below_drewN _ _)⟩
    · have HH : Hid (decide (has H o) = false) := decide_eq_false hp
      have ez : z = false := by rw [← hz.out]; simp [ownB, ho, hk, hp]
      clear ho hk hp
      subst ez
      go_enter Try.func43, Try.ntmps43
      go_wp2_with (first | (refine wpList_box_v rfl 29 _ rfl (hv ⟨k, x, y, s, l, e, o, t⟩) rfl ?_; intro b1 w1 hb1 hw1 hB1 hV1; have hz1 := hB1.size; have hb : HB w1 b1 ⟨k, x, y, s, l, e, o, t⟩ := ⟨hV1⟩; obtain ⟨c0, c1, c2, c3, c4, c5, c6, c7⟩ := hb.cells) | (fail))
      try go_frame
      go_big_quiet (first | (go_at_call 64; exact Calls.quiet_of_same (has_is H o _ _ hl _ HH.out _)) | (fail))
      go_wp2
      go_ret
      exact ⟨rfl, hB1.trans (below_drewN _ _)⟩
  · have gk : (k != 1) = true := by simpa using hk
    have ez : z = false := by rw [← hz.out]; simp [ownB, ho, hk]
    clear ho hk
    subst ez
    go_enter Try.func43, Try.ntmps43
    go_wp2_with (first | (refine wpList_box_v rfl 29 _ rfl (hv ⟨k, x, y, s, l, e, o, t⟩) rfl ?_; intro b1 w1 hb1 hw1 hB1 hV1; have hz1 := hB1.size; have hb : HB w1 b1 ⟨k, x, y, s, l, e, o, t⟩ := ⟨hV1⟩; obtain ⟨c0, c1, c2, c3, c4, c5, c6, c7⟩ := hb.cells) | (fail))
    try go_frame
    go_big_quiet (fail)
    go_wp2
    go_ret
    exact ⟨rfl, hB1.trans (below_drewN _ _)⟩
end Go.Proofs.Ytnjeepmbkogaeaa.ce
