/- Contracts: HeapOk of the program and of the model. -/
import Derived.Test.YtnjeepmbkogaeaaCe2
namespace Go.Proofs.Ytnjeepmbkogaeaa.ce
open Go.ChangeShapes Go.WideShapes Go.ChangeAt Go.RowKit
set_option linter.unusedVariables false

theorem cv_range {w : World} {b off : Nat} {h : List C} (r : w.rangeAt b off (cvs h)) (i : Nat) (hi : i < h.length) : w.rangeAt b (off + i * 4) (cv h[i]) := fun j v hv => by
  have hj : j < 4 := (List.getElem?_eq_some_iff.1 hv).1
  have := r (i * 4 + j) v (by rw [cvs_get h i hi j hj]; exact hv)
  rw [← Nat.add_assoc] at this
  exact this
theorem cvs_one1 (c : C) : ∀ v ∈ cv c, v.oneCell' = true := by
  intro v hv
  simp only [cv, List.mem_cons, List.not_mem_nil, or_false] at hv
  rcases hv with rfl | rfl | rfl | rfl <;> rfl
theorem right_drop (h : List C) (i : Nat) (hi : i < h.length) (h0 : 1 ≤ i) (hr : ¬ right h h[i]) : ¬ heapOk h := fun ok => hr (ok.2.2 _ (by
  have e : h[i] = (h.drop 1)[i - 1]'(by simp; omega) := by rw [List.getElem_drop]; congr 1; omega
  rw [e]; exact List.getElem_mem _))

theorem ok_upto (H : List C) (hm : H.length ≤ 40) (hp : 1 ≤ H.length) (hf : first H) (hd : ∀ j (hj : j < H.length), 1 ≤ j → right H H[j]) : heapOk H := by
  refine ⟨⟨hp, hm⟩, hf, fun c hc => ?_⟩
  obtain ⟨j, hj, rfl⟩ := List.getElem_of_mem hc
  rw [List.getElem_drop]
  exact hd _ (by simp at hj; omega) (by omega)

theorem implHeapOk_any (H : List C) (v : Value) (hi : Nat) (w : World) (hh : hi ≤ w.heap.size) (r : Rd w hi v H) :
    Calls Try.prog 37 #[v] w fun e w' => e = .returned (.bool (decide (heapOk H))) ∧ Below w.heap.size w w' := by
  obtain ⟨a, cap, rfl, hlc, hcm, hA⟩ := r.fits
  have hl := r.len
  have R : Hid (Rd w hi (.slice a H.length cap) H) := r
  clear r
  by_cases h1 : H.length < 1
  · have e : Hid (decide (heapOk H) = false) := decide_eq_false (fun ok => by have := ok.1.1; omega)
    rw [e.out]
    have h0 : H.length = 0 := by omega
    clear hA
    go_enter Try.func37, Try.ntmps37
    go_wp2
    go_ret
    exact ⟨rfl, Below.refl _ _⟩
  by_cases h2 : 40 < H.length
  · have e : Hid (decide (heapOk H) = false) := decide_eq_false (fun ok => by have := ok.1.2; omega)
    rw [e.out]
    clear hA
    go_enter Try.func37, Try.ntmps37
    go_wp2
    go_ret
    exact ⟨rfl, Below.refl _ _⟩
  obtain ⟨b, off, rfl, hb, hr⟩ := hA (by intro e; subst e; simp at h1)
  have RG : Hid (w.rangeAt b off (cvs H)) := hr
  clear hA hr
  have n1 : ((H.length : Int) < 1) = False := by simp; omega
  have n2 : ((40 : Int) < H.length) = False := by simp; omega
  by_cases hf : first H
  · have HF : Hid (decide (first H) = true) := by unfold Hid; simpa using hf
    have FF : Hid (first H) := hf
    have hm : H.length ≤ 40 := by omega
    have hp : 1 ≤ H.length := by omega
    have hc1 : 1 ≤ cap := by omega
    have hcap : cap ≤ 9223372036854775807 := by unfold maxLen at hcm; omega
    clear hf
    by_cases hcap1 : cap = 1
    · subst hcap1
      have hl1 : H.length = 1 := by omega
      have e : Hid (decide (heapOk H) = true) := decide_eq_true (ok_upto H hm hp FF.out (fun j hj h0 => by omega))
      rw [e.out]
      rw [hl1] at R
      rw [hl1]
      clear n1 n2 h1 h2
      go_enter Try.func37, Try.ntmps37
      go_wp2_with (first | (go_at_call 60; refine (firstRight_any H _ hi _ hh R.out hp).mono ?_; rintro e w1 ⟨rfl, hB1⟩; rw [HF.out]))
      go_loopw [21] (fun v wr => v = .int .i64 0 ∧ wr = w1) (fun v _ => 0)
      case atStart => exact ⟨rfl, rfl⟩
      case round =>
        obtain ⟨rfl, rfl⟩ := hrel
        go_wp2
        go_ret
        exact ⟨rfl, hB1⟩
    · go_enter Try.func37, Try.ntmps37
      go_wp2_with (first | (go_at_call 60; refine (firstRight_any H _ hi _ hh R.out hp).mono ?_; rintro e w1 ⟨rfl, hB1⟩; rw [HF.out]))
      go_loopw [21] (fun v wr => ∃ i : Nat, i ≤ H.length - 1 ∧ v = .int .i64 i ∧ Hid (∀ j (hj : j < H.length), 1 ≤ j → j ≤ i → right H H[j]) ∧ Below w.heap.size w wr) (fun v _ => H.length - 1 - (intOf v).toNat)
      case atStart => exact ⟨0, by omega, rfl, fun j hj h0 h1 => by omega, hB1⟩
      case round =>
        obtain ⟨i, hi1, rfl, hd, hBr⟩ := hrel
        by_cases hlt : i < H.length - 1
        · have hil : i + 1 < H.length := by omega
          obtain ⟨c, hc⟩ := hid_ex (H[i + 1])
          have rg : Hid (wr.rangeAt b (off + 4 + i * 4) (cv c)) := by
            have h1 := cv_range (range_of RG.out (hBr.block b (by omega))) (i + 1) hil
            rw [hc.out, show off + (i + 1) * 4 = off + 4 + i * 4 by omega] at h1
            exact h1
          have hbr := hBr.size
          have hlt' : (i : Int) < ((H.length - 1 : Nat) : Int) := by omega
          have m1 : Hid True := trivial
          have RR : Hid (Rd wr hi (.slice (some ⟨b, off, none⟩) H.length cap) H) := R.out.below hBr hh
          by_cases hrt : right H c
          · have HR : Hid (decide (right H c) = true) := decide_eq_true hrt
            go_wp2_with (first | (clear m1; refine wpList_load_r rfl 54 _ rfl b (off + 4 + i * 4) (cv c) rfl _ Try.underlying54 rfl sizeC rg.out ?_) | (refine wpList_alloc_v rfl 54 rfl _ zeroC ?_; intro b2 w2 hb2 hw2 hB2 hV2) | (refine wpList_store_v rfl 54 _ _ rfl b2 (cv c) rfl rfl sizeC hV2 rfl (cvs_one1 c) ?_; intro w3 hO3 hV3) | (refine wpList_load_r rfl 54 _ rfl b2 0 (cv c) rfl _ Try.underlying54 rfl sizeC hV3.range ?_) | (go_at_call 61; refine (otherRight_any H c _ hi _ (by have := hO3.1; have := hB2.size; omega) ((RR.out.below hB2 (by omega)).keep fun k hk => hO3.2.1 k (by omega))).mono ?_; rintro e w4 ⟨rfl, hB4⟩; rw [HR.out]) | (fail))
            go_roundw
            case rel =>
              refine ⟨i + 1, by omega, by go_num, fun j hj h0 h1 => ?_, ?_⟩
              · by_cases e : j = i + 1
                · subst e; rw [hc.out]; exact hrt
                · exact hd.out j hj h0 (by omega)
              · exact ((hBr.trans (hB2.mono hbr)).trans (hO3.2.2 _ (by omega))).trans (hB4.mono (by have := hO3.1; have := hB2.size; omega))
            case measure => simp [intOf]; omega
          · have HR : Hid (decide (right H c) = false) := decide_eq_false hrt
            have e : Hid (decide (heapOk H) = false) := decide_eq_false (right_drop H (i + 1) hil (by omega) (by rw [hc.out]; exact hrt))
            go_wp2_with (first | (clear m1; refine wpList_load_r rfl 54 _ rfl b (off + 4 + i * 4) (cv c) rfl _ Try.underlying54 rfl sizeC rg.out ?_) | (refine wpList_alloc_v rfl 54 rfl _ zeroC ?_; intro b2 w2 hb2 hw2 hB2 hV2) | (refine wpList_store_v rfl 54 _ _ rfl b2 (cv c) rfl rfl sizeC hV2 rfl (cvs_one1 c) ?_; intro w3 hO3 hV3) | (refine wpList_load_r rfl 54 _ rfl b2 0 (cv c) rfl _ Try.underlying54 rfl sizeC hV3.range ?_) | (go_at_call 61; refine (otherRight_any H c _ hi _ (by have := hO3.1; have := hB2.size; omega) ((RR.out.below hB2 (by omega)).keep fun k hk => hO3.2.1 k (by omega))).mono ?_; rintro e w4 ⟨rfl, hB4⟩; rw [HR.out]) | (fail))
            go_ret
            exact ⟨by rw [e.out]; rfl, ((hBr.trans (hB2.mono hbr)).trans (hO3.2.2 _ (by omega))).trans (hB4.mono (by have := hO3.1; have := hB2.size; omega))⟩
        · have ei : i = H.length - 1 := by omega
          have e : Hid (decide (heapOk H) = true) := decide_eq_true (ok_upto H hm hp FF.out (fun j hj h0 => hd.out j hj h0 (by omega)))
          have hlt' : ¬ ((i : Int) < ((H.length - 1 : Nat) : Int)) := by omega
          go_wp2
          go_ret
          exact ⟨by rw [e.out]; rfl, hBr⟩
  · have HF : Hid (decide (first H) = false) := by unfold Hid; simpa using hf
    have e : Hid (decide (heapOk H) = false) := decide_eq_false (fun ok => hf ok.2.1)
    rw [e.out]
    go_enter Try.func37, Try.ntmps37
    go_wp2_with (first | (go_at_call 60; refine (firstRight_any H _ hi _ hh R.out (by omega)).mono ?_; rintro e w1 ⟨rfl, hB1⟩; rw [HF.out]))
    go_ret
    exact ⟨rfl, hB1⟩

end Go.Proofs.Ytnjeepmbkogaeaa.ce
