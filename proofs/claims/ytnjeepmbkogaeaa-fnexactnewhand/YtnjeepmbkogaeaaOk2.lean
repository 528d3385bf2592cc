/- Contract of l5Ok (written by genok.py): numbers out of range. -/
import Derived.Test.YtnjeepmbkogaeaaOk1
namespace Go.Proofs.Ytnjeepmbkogaeaa.ce
open Go.ChangeShapes Go.WideShapes Go.ChangeAt Go.RowKit
set_option linter.unusedVariables false

set_option maxRecDepth 100000 in
set_option maxHeartbeats 4000000 in
theorem ok_range (H : List C) (hok : heapOk H) (k x y s l e o t : Int) (v : Value) (hi : Nat) (w : World) (hh : hi ≤ w.heap.size) (r : Rd w hi v H) (hbad : ¬ ((1 ≤ k ∧ k ≤ 3) ∧ (1 ≤ x ∧ x ≤ 65535) ∧ (0 ≤ s ∧ s ≤ 5))) :
    Calls Try.prog 35 #[v, .agg (hv ⟨k, x, y, s, l, e, o, t⟩).toArray] w fun er w' => er = .returned (.bool (okB H ⟨k, x, y, s, l, e, o, t⟩)) ∧ Below w.heap.size w w' := by
  obtain ⟨a, cap, rfl⟩ := r.form
  have hl := r.len
  have R : Hid (Rd w hi (.slice a H.length cap) H) := r
  have HK : Hid (heapOk H) := hok
  have h1 := hok.1.1
  have h40 := hok.1.2
  obtain ⟨z, hz⟩ := hid_ex (okB H ⟨k, x, y, s, l, e, o, t⟩)
  rw [hz.out]
  have bad : Hid (¬ OkH H ⟨k, x, y, s, l, e, o, t⟩ → z = false) := fun h => by rw [← hz.out]; exact okB_false h
  have fine : Hid (OkH H ⟨k, x, y, s, l, e, o, t⟩ → z = true) := fun h => by rw [← hz.out]; exact okB_true h
  clear r hok hz
  have m1 : Hid True := trivial
  have m2 : Hid True := trivial
  have m3 : Hid True := trivial
  have m4 : Hid True := trivial
  have ez : z = false := bad.out fun h => hbad ⟨h.kind, h.key, h.step⟩
  subst ez
  clear bad fine
  by_cases hk : 1 ≤ k ∧ k ≤ 3
  · have fK : Hid (decide (1 ≤ k ∧ k ≤ 3) = true) := decide_eq_true hk
    by_cases hx : 1 ≤ x ∧ x ≤ 65535
    · have fX : Hid (decide (1 ≤ x ∧ x ≤ 65535) = true) := decide_eq_true hx
      have fS : Hid (decide (0 ≤ s ∧ s ≤ 5) = false) := decide_eq_false fun hs => hbad ⟨hk, hx, hs⟩
      clear hbad
      go_enter Try.func35, Try.ntmps35
      go_wp2_with (first | (refine wpList_box_v rfl 29 _ rfl (hv ⟨k, x, y, s, l, e, o, t⟩) rfl ?_; intro b3 w1 hb3 hw1 hB1 hV1; have hb : HB w1 b3 ⟨k, x, y, s, l, e, o, t⟩ := ⟨hV1⟩; obtain ⟨c0, c1, c2, c3, c4, c5, c6, c7⟩ := hb.cells; have hz1 := hB1.size) | (clear m1; go_at_call 57; refine (in_is k 1 3 _ fK.out _).mono ?_; rintro er wq ⟨rfl, hq⟩; subst wq) | (clear m2; go_at_call 57; refine (in_is x 1 65535 _ fX.out _).mono ?_; rintro er wq ⟨rfl, hq⟩; subst wq) | (clear m3; go_at_call 57; refine (in_is s 0 5 _ fS.out _).mono ?_; rintro er wq ⟨rfl, hq⟩; subst wq) | (fail))
      go_ret
      exact ⟨rfl, hB1⟩
    · have fX : Hid (decide (1 ≤ x ∧ x ≤ 65535) = false) := decide_eq_false hx
      clear hbad
      go_enter Try.func35, Try.ntmps35
      go_wp2_with (first | (refine wpList_box_v rfl 29 _ rfl (hv ⟨k, x, y, s, l, e, o, t⟩) rfl ?_; intro b3 w1 hb3 hw1 hB1 hV1; have hb : HB w1 b3 ⟨k, x, y, s, l, e, o, t⟩ := ⟨hV1⟩; obtain ⟨c0, c1, c2, c3, c4, c5, c6, c7⟩ := hb.cells; have hz1 := hB1.size) | (clear m1; go_at_call 57; refine (in_is k 1 3 _ fK.out _).mono ?_; rintro er wq ⟨rfl, hq⟩; subst wq) | (clear m2; go_at_call 57; refine (in_is x 1 65535 _ fX.out _).mono ?_; rintro er wq ⟨rfl, hq⟩; subst wq) | (fail))
      go_ret
      exact ⟨rfl, hB1⟩
  · have fK : Hid (decide (1 ≤ k ∧ k ≤ 3) = false) := decide_eq_false hk
    clear hbad
    go_enter Try.func35, Try.ntmps35
    go_wp2_with (first | (refine wpList_box_v rfl 29 _ rfl (hv ⟨k, x, y, s, l, e, o, t⟩) rfl ?_; intro b3 w1 hb3 hw1 hB1 hV1; have hb : HB w1 b3 ⟨k, x, y, s, l, e, o, t⟩ := ⟨hV1⟩; obtain ⟨c0, c1, c2, c3, c4, c5, c6, c7⟩ := hb.cells; have hz1 := hB1.size) | (clear m1; go_at_call 57; refine (in_is k 1 3 _ fK.out _).mono ?_; rintro er wq ⟨rfl, hq⟩; subst wq) | (fail))
    go_ret
    exact ⟨rfl, hB1⟩

end Go.Proofs.Ytnjeepmbkogaeaa.ce
