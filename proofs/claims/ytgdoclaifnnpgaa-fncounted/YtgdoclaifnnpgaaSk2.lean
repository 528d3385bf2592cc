/- Contracts of the program's four rows of counts as one array: halved, laid out as lists, taken from a sketch. -/
import Derived.Test.YtgdoclaifnnpgaaSk1
import Derived.Test.YtgdoclaifnnpgaaSkMem
namespace Go.Proofs.Ytgdoclaifnnpgaa.sk
open Go.ChangeShapes Go.WideShapes Go.ChangeAt Go.RowKit
set_option linter.unusedVariables false

theorem flat_len (m : Nat) : ∀ (R : List (List Int)), (∀ xs ∈ R, xs.length = m) → R.flatten.length = R.length * m
  | [], _ => by simp
  | x :: R, h => by
    simp only [List.flatten_cons, List.length_append, flat_len m R (fun y hy => h y (by simp [hy])), h x (by simp), List.length_cons, Nat.add_mul]
    omega
theorem flat_chunk (m : Nat) : ∀ (R : List (List Int)) (h : ∀ xs ∈ R, xs.length = m) (i : Nat) (hi : i < R.length), (R.flatten.drop (i * m)).take m = R[i]
  | x :: R, h, 0, hi => by
    have := h x (by simp)
    simp [← this]
  | x :: R, h, i + 1, hi => by
    have hx := h x (by simp)
    have ih := flat_chunk m R (fun y hy => h y (by simp [hy])) i (by simpa using hi)
    rw [List.flatten_cons, List.getElem_cons_succ, ← ih, Nat.add_mul, Nat.one_mul, Nat.add_comm, ← List.drop_drop, ← hx, List.drop_left]
theorem flat_put (m : Nat) : ∀ (R : List (List Int)) (h : ∀ xs ∈ R, xs.length = m) (i : Nat) (hi : i < R.length) (ys : List Int) (hy : ys.length = m), put R.flatten ys (i * m) = (R.set i ys).flatten
  | x :: R, h, 0, hi, ys, hy => by
    have hx := h x (by simp)
    have e : x.length = ys.length := by omega
    simp [put, ← e]
  | x :: R, h, i + 1, hi, ys, hy => by
    have hx := h x (by simp)
    have ih := flat_put m R (fun y hy => h y (by simp [hy])) i (by simpa using hi) ys hy
    have e1 : (i + 1) * m = x.length + i * m := by rw [Nat.add_mul]; omega
    rw [List.set_cons_succ, List.flatten_cons, List.flatten_cons, ← ih, e1]
    unfold put
    rw [List.take_append, List.take_of_length_le (by omega : x.length ≤ x.length + i * m), Nat.add_sub_cancel_left, List.drop_append,
      List.drop_eq_nil_of_le (by omega : x.length ≤ x.length + i * m + ys.length), show x.length + i * m + ys.length - x.length = i * m + ys.length by omega]
    simp

/-- the first i rows are done -/
def mix (T R : List (List Int)) (i : Nat) : List (List Int) := T.take i ++ R.drop i
theorem mix_zero (T R : List (List Int)) : mix T R 0 = R := by simp [mix]
theorem mix_all (T R : List (List Int)) (i : Nat) (hT : T.length ≤ i) (hR : R.length ≤ i) : mix T R i = T := by simp [mix, List.take_of_length_le hT, List.drop_eq_nil_of_le hR]
theorem mix_len (T R : List (List Int)) (i : Nat) (h : T.length = R.length) : (mix T R i).length = R.length := by simp [mix]; omega
theorem mix_mem (T R : List (List Int)) (i m : Nat) (hT : ∀ xs ∈ T, xs.length = m) (hR : ∀ xs ∈ R, xs.length = m) : ∀ xs ∈ mix T R i, xs.length = m := by
  intro xs hx
  rcases List.mem_append.1 hx with h | h
  · exact hT _ (List.mem_of_mem_take h)
  · exact hR _ (List.mem_of_mem_drop h)
theorem mix_set (T R : List (List Int)) (i : Nat) (h : T.length = R.length) (hi : i < T.length) : (mix T R i).set i T[i] = mix T R (i + 1) := by
  apply List.ext_getElem?
  intro j
  simp only [mix, List.getElem?_set, List.getElem?_append, List.length_take, List.length_append, List.length_drop, List.getElem?_take, List.getElem?_drop]
  have hm : min i T.length = i := by omega
  have hm1 : min (i + 1) T.length = i + 1 := by omega
  rw [hm, hm1]
  by_cases e : i = j
  · subst e
    rw [if_pos rfl, if_pos (by omega), if_pos (by omega), if_pos (by omega)]
    simp [hi]
  · rw [if_neg e]
    by_cases l : j < i
    · rw [if_pos l, if_pos l, if_pos (by omega), if_pos (by omega)]
    · rw [if_neg l, if_neg (by omega), show i + (j - i) = i + 1 + (j - (i + 1)) by omega]
theorem mix_get (T R : List (List Int)) (i : Nat) (h : T.length = R.length) (hi : i < R.length) (hj : i < (mix T R i).length) : (mix T R i)[i] = R[i] := by
  simp only [mix]
  rw [List.getElem_append_right (by simp; omega)]
  simp [show min i T.length = i by omega]

def Four (R : List (List Int)) : Prop := R.length = 4 ∧ ∀ xs ∈ R, xs.length = 16
theorem Four.len {R : List (List Int)} (h : Four R) : R.flatten.length = 64 := by rw [flat_len 16 R h.2, h.1]
def Small (R : List (List Int)) : Prop := ∀ xs ∈ R, ∀ x ∈ xs, 0 ≤ x ∧ x ≤ 15

theorem rowsHalved_any (R : List (List Int)) (hR : Four R) (hr : Small R) (w : World) :
    Calls Try.prog 44 #[arr R.flatten] w fun e w' => e = .returned (arr (R.map (·.map half)).flatten) ∧ Below w.heap.size w w' := by
  obtain ⟨T, hT⟩ : ∃ T, T = R.map (·.map half) := ⟨_, rfl⟩
  have hT4 : Four T := by subst hT; exact ⟨by simp [hR.1], by simp; intro xs hx; exact hR.2 xs hx⟩
  rw [← hT]
  have HT : Hid (T = R.map (·.map half)) := hT
  clear hT
  have hl := hR.len
  have hlT := hT4.len
  go_enter Try.func44, Try.ntmps44
  go_wp2_with (first | (refine wpList_box_arr rfl 54 _ rfl R.flatten rfl ?_; intro b w1 hb hw1 hB1 hK1) | (refine wpList_alloc_arr rfl 54 rfl _ zero54 ?_; intro b2 w2 hb2 hw2 hB2 hK2; replace hK1 := hK1.below hB2 hw1) | (refine wpList_load_arr rfl 54 _ rfl b 0 64 rfl _ Try.underlying54 rfl size54 hK1 (by omega) R.flatten (all64 hl) ?_))
  have hB : Below w.heap.size w w2 := hB1.trans (hB2.mono hB1.size)
  have hne : b2 ≠ b := by omega
  go_loopw [6] (fun v wr => ∃ i : Nat, i ≤ 4 ∧ v = .int .i64 i ∧ Blk wr b 54 (mix T R i).flatten ∧ Blk wr b2 54 (List.replicate 64 0) ∧ Below w.heap.size w wr) (fun v _ => 4 - (intOf v).toNat)
  case atStart => exact ⟨0, by omega, rfl, by rw [mix_zero]; exact hK1, hK2, hB⟩
  case round =>
    obtain ⟨i, hi, rfl, hb1, hb2', hBr⟩ := hrel
    by_cases hlt : i < 4
    · have hiR : i < R.length := by rw [hR.1]; exact hlt
      have hiT : i < T.length := by rw [hT4.1]; exact hlt
      obtain ⟨xs, hxs⟩ : ∃ xs, R[i] = xs := ⟨_, rfl⟩
      have hx16 : xs.length = 16 := by rw [← hxs]; exact hR.2 _ (List.getElem_mem hiR)
      have hxb : ∀ x ∈ xs, 0 ≤ x ∧ x ≤ 15 := by rw [← hxs]; exact hr _ (List.getElem_mem hiR)
      have hchunk : Hid ((R.flatten.drop (i * 16)).take 16 = xs) := by unfold Hid; rw [flat_chunk 16 R hR.2 i hiR, hxs]
      obtain ⟨ys, hys⟩ : ∃ ys, Hid (xs.map half = ys) := ⟨_, rfl⟩
      have hy16 : ys.length = 16 := by rw [← hys.out]; simp [hx16]
      have HX : Hid (R[i] = xs) := hxs
      clear hxs
      have h4 := mix_len T R i (by rw [hT4.1, hR.1])
      have hm16 := mix_mem T R i 16 hT4.2 hR.2
      have hml : (mix T R i).flatten.length = 64 := by rw [flat_len 16 _ hm16, h4, hR.1]
      have h4' : Hid ((mix T R i).length = R.length) := h4
      clear h4
      have hm16' : Hid (∀ xs ∈ mix T R i, xs.length = 16) := hm16
      clear hm16
      have hb1' := hb1
      have hb2'' := hb2'
      go_wp2_with (first | (refine wpList_index_arr rfl 54 _ _ rfl R.flatten i 4 16 rfl rfl Try.underlying54 Try.sizeOf52 Try.isAgg52 hlt xs hchunk.out ?_) | (refine wpList_alloc_arr rfl 52 rfl _ zero52 ?_; intro b3 w3 hb3 hw3 hB3 hK3; replace hb1 := hb1.below hB3 hb1.lt; replace hb2' := hb2'.below hB3 hb2'.lt) | (refine wpList_store_arr rfl 52 _ _ rfl b3 0 xs rfl rfl (by rw [hx16]; exact size52) hK3 (by rw [hx16]; simp) ?_; intro w4 hO4 hK4; rw [put_all _ _ (by rw [hx16]; simp)] at hK4) | (refine wpList_load_arr rfl 52 _ rfl b3 0 16 rfl _ Try.underlying52 rfl size52 hK4 (by omega) xs (all16 hx16) ?_) | (go_at_call 60; refine (halved_any xs hx16 hxb _).mono ?_; rintro e w5 ⟨he, hB5⟩; rw [hys.out] at he; subst he; have hb1w := (hb1.of (hO4.2.1 _ (by have := hb1'.lt; omega))).below hB5 (by have := hb1'.lt; have := hO4.1; have := hB3.size; omega); have hb2w := (hb2'.of (hO4.2.1 _ (by have := hb2''.lt; omega))).below hB5 (by have := hb2''.lt; have := hO4.1; have := hB3.size; omega)) | (refine wpList_store_arr rfl 52 _ _ rfl b (i * 16) ys rfl rfl (by rw [hy16]; exact size52) hb1w (by rw [hy16, hml]; omega) ?_; intro w6 hO6 hK6; rw [flat_put 16 _ hm16'.out i (by rw [h4'.out]; exact hiR) ys hy16] at hK6))
      go_roundw
      case rel =>
        have eT : T[i] = ys := by
          have : T[i] = (R[i]).map half := by have := HT.out; subst this; simp
          rw [this, HX.out, hys.out]
        refine ⟨i + 1, by omega, by go_num, ?_, hb2w.of (hO6.2.1 _ hne), ?_⟩
        · rw [← mix_set T R i (by rw [hT4.1, hR.1]) hiT, eT]; exact hK6
        · refine ((hBr.trans (hB3.mono hBr.size)).trans (hO4.2.2 _ (by have := hBr.size; omega))).trans ?_
          exact (hB5.mono (by have := hBr.size; have := hB3.size; have := hO4.1; omega)).trans (hO6.2.2 _ hb)
      case measure => simp [intOf]; omega
    · obtain rfl : i = 4 := by omega
      rw [mix_all _ _ _ (by rw [hT4.1]; omega) (by rw [hR.1]; omega)] at hb1
      go_wp2_with (first | (refine wpList_load_arr rfl 54 _ rfl b 0 64 rfl _ Try.underlying54 rfl size54 hb1 (by omega) T.flatten (all64 hlT) ?_) | (refine wpList_store_arr rfl 54 _ _ rfl b2 0 T.flatten rfl rfl (by rw [hlT]; exact size54) hb2' (by rw [hlT]; simp) ?_; intro w3 hO3 hK3; rw [put_all _ _ (by rw [hlT]; simp)] at hK3))
      refine row_ret rfl rfl hK3 Try.underlying54 (by rw [hlT]; exact size54) rfl ⟨rfl, hBr.trans (hO3.2.2 _ (by omega))⟩

end Go.Proofs.Ytgdoclaifnnpgaa.sk
