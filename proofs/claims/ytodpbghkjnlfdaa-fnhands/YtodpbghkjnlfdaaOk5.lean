/- Contracts: l5Ok, HandOk. -/
import Derived.Test.YtodpbghkjnlfdaaOk41
import Derived.Test.YtodpbghkjnlfdaaOk42
import Derived.Test.YtodpbghkjnlfdaaOk43
import Derived.Test.YtodpbghkjnlfdaaOk44
namespace Go.Proofs.Ytodpbghkjnlfdaa.ce
open Go.ChangeShapes Go.WideShapes Go.ChangeAt Go.RowKit
set_option linter.unusedVariables false

theorem l5Ok_any (H : List C) (hok : heapOk H) (d : Hd) (v : Value) (hi : Nat) (w : World) (hh : hi ≤ w.heap.size) (r : Rd w hi v H) :
    Calls Try.prog 35 #[v, .agg (hv d).toArray] w fun er w' => er = .returned (.bool (okB H d)) ∧ Below w.heap.size w w' := by
  obtain ⟨k, x, y, s, l, e, o, t⟩ := d
  by_cases hr : (1 ≤ k ∧ k ≤ 3) ∧ (1 ≤ x ∧ x ≤ 65535) ∧ (0 ≤ s ∧ s ≤ 5)
  · obtain ⟨hk, hx, hs⟩ := hr
    rcases (by omega : s = 0 ∨ s = 1 ∨ s = 2 ∨ s = 3 ∨ s = 4 ∨ s = 5) with rfl | rfl | rfl | rfl | rfl | rfl
    · exact ok_idle0 H hok k x y l e o t v hi w hh r hk hx
    · exact ok_way1 H hok k x y l e o t v hi w hh r hk hx
    · exact ok_way2 H hok k x y l e o t v hi w hh r hk hx
    · exact ok_way3 H hok k x y l e o t v hi w hh r hk hx
    · exact ok_way4 H hok k x y l e o t v hi w hh r hk hx
    · exact ok_idle5 H hok k x y l e o t v hi w hh r hk hx
  · exact ok_range H hok k x y s l e o t v hi w hh r hr

noncomputable def handB (H : List C) (d : Hd) : Bool := if heapOk H then okB H d else false
theorem handB_pos {H : List C} {d : Hd} (h : heapOk H) : handB H d = okB H d := if_pos h
theorem handB_neg {H : List C} {d : Hd} (h : ¬ heapOk H) : handB H d = false := if_neg h

theorem specHandOk_any (H : List C) (d : Hd) (v : Value) (hi : Nat) (w : World) (hh : hi ≤ w.heap.size) (r : Rd w hi v H) :
    Calls Try.prog 10 #[v, .agg (hv d).toArray] w fun er w' => er = .returned (.bool (handB H d)) ∧ Below w.heap.size w w' := by
  obtain ⟨a, cap, rfl⟩ := r.form
  have R : Hid (Rd w hi (.slice a H.length cap) H) := r
  clear r
  obtain ⟨k, x, y, s, l, e, o, t⟩ := d
  by_cases hok : heapOk H
  · have HK : Hid (decide (heapOk H) = true) := decide_eq_true hok
    have HO : Hid (heapOk H) := hok
    obtain ⟨z, hz⟩ := hid_ex (okB H ⟨k, x, y, s, l, e, o, t⟩)
    rw [handB_pos hok, hz.out]
    clear hok
    go_enter Try.func10, Try.ntmps10
    go_wp2_with (first | (refine wpList_box_v rfl 29 _ rfl (hv ⟨k, x, y, s, l, e, o, t⟩) rfl ?_; intro b3 w1 hb3 hw1 hB1 hV1; have hb : HB w1 b3 ⟨k, x, y, s, l, e, o, t⟩ := ⟨hV1⟩; have hz1 := hB1.size) | (go_at_call 34; refine (specHeapOk_any H _ hi _ (by omega) (R.out.below hB1 hh)).mono ?_; rintro er w2 ⟨rfl, hB2⟩; rw [HK.out]; have hz2 := hB2.size; have hb2 := hb.of (hB2.block b3 hw1); obtain ⟨c0, c1, c2, c3, c4, c5, c6, c7⟩ := hb2.cells) | (go_at_call 35; refine (l5Ok_any H HO.out ⟨k, x, y, s, l, e, o, t⟩ _ hi _ (by omega) ((R.out.below hB1 hh).below hB2 (by omega))).mono ?_; rintro er w3 ⟨rfl, hB3⟩; rw [hz.out]) | (fail))
    go_ret
    exact ⟨rfl, (hB1.trans (hB2.mono hz1)).trans (hB3.mono (by omega))⟩
  · have HK : Hid (decide (heapOk H) = false) := decide_eq_false hok
    rw [handB_neg hok]
    clear hok
    go_enter Try.func10, Try.ntmps10
    go_wp2_with (first | (refine wpList_box_v rfl 29 _ rfl (hv ⟨k, x, y, s, l, e, o, t⟩) rfl ?_; intro b3 w1 hb3 hw1 hB1 hV1; have hb : HB w1 b3 ⟨k, x, y, s, l, e, o, t⟩ := ⟨hV1⟩; have hz1 := hB1.size) | (go_at_call 34; refine (specHeapOk_any H _ hi _ (by omega) (R.out.below hB1 hh)).mono ?_; rintro er w2 ⟨rfl, hB2⟩; rw [HK.out]; have hz2 := hB2.size) | (fail))
    go_ret
    exact ⟨rfl, hB1.trans (hB2.mono hz1)⟩
end Go.Proofs.Ytodpbghkjnlfdaa.ce
