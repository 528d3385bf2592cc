/- Contracts: the model's chapter 4, those that go along the chain. -/
import Derived.Test.YtnjeepmbkogaeaaSp4
namespace Go.Proofs.Ytnjeepmbkogaeaa.ce
open Go.ChangeShapes Go.WideShapes Go.ChangeAt Go.RowKit
set_option linter.unusedVariables false

def alive (H : List C) (L : List Int) : List Int := (L.filter fun x => !(nth H x).gone).map fun x => (nth H x).key
theorem alive_gone (H : List C) (L : List Int) (x : Int) (h : (nth H x).gone = true) : alive H (L ++ [x]) = alive H L := by simp [alive, List.filter_append, h]
theorem alive_live (H : List C) (L : List Int) (x : Int) (h : (nth H x).gone = false) : alive H (L ++ [x]) = alive H L ++ [(nth H x).key] := by simp [alive, List.filter_append, h]
theorem alive_len (H : List C) (L : List Int) : (alive H L).length ≤ L.length := by simp [alive]; exact List.length_filter_le _ _
def goneC (H : List C) (L : List Int) : Nat := (L.filter fun x => (nth H x).gone).length
theorem goneC_gone (H : List C) (L : List Int) (x : Int) (h : (nth H x).gone = true) : goneC H (L ++ [x]) = goneC H L + 1 := by simp [goneC, List.filter_append, h]
theorem goneC_live (H : List C) (L : List Int) (x : Int) (h : (nth H x).gone = false) : goneC H (L ++ [x]) = goneC H L := by simp [goneC, List.filter_append, h]
theorem goneC_len (H : List C) (L : List Int) : goneC H L ≤ L.length := List.length_filter_le _ _
/-- the cell that the k-th of the chain is -/
theorem chain_at {H : List C} (u : Up H) {L : List Int} (hL : ∀ x ∈ L, has H x) (k : Nat) (hk : k < L.length) : ∃ (i : Nat) (hi : i < H.length), L[k] = (i : Int) ∧ nth H L[k] = H[i] := by
  have h := hL _ (List.getElem_mem hk)
  refine ⟨(L[k]).toNat, by have := h.1; have := h.2; omega, by have := h.1; omega, ?_⟩
  unfold nth
  rw [List.getD_eq_getElem?_getD, List.getElem?_eq_getElem (by have := h.1; have := h.2; omega)]
  rfl

theorem l4Living_any (H : List C) (u : Up H) (hlen : H.length ≤ 1048576) (v : Value) (hi : Nat) (w : World) (hh : hi ≤ w.heap.size) (r : Rd w hi v H) :
    Calls Try.prog 55 #[v] w fun e w' => ∃ v', e = .returned v' ∧ OwnI w' w.heap.size w'.heap.size v' (living H) ∧ Below w.heap.size w w' := by
  obtain ⟨a, cap, rfl⟩ := r.form
  have R : Hid (Rd w hi (.slice a H.length cap) H) := r
  obtain ⟨M, hM, -⟩ := chain_head u
  have eL : Hid (living H = alive H M) := by unfold Hid living alive; rw [hM]; rfl
  rw [eL.out]
  have hcl : M.length + 1 ≤ 65536 := by have := chain_len u; rw [hM] at this; simpa using this
  have hM' : Hid (chain H = 0 :: M) := hM
  have hMh : Hid (∀ x ∈ M, has H x) := fun x hx => chain_has u x (by rw [hM]; exact List.mem_cons_of_mem _ hx)
  have U : Hid (Up H) := u
  clear r hM
  have hB0 : Below w.heap.size w (w.alloc (.cells #[] 2)) := (Below.refl _ w).alloc (Nat.le_refl _) _
  have hE : Hid (OwnI (w.alloc (.cells #[] 2)) w.heap.size (w.heap.size + 1) (.slice (some ⟨w.heap.size, 0, none⟩) 0 0) []) := ownI_empty w
  go_enter Try.func55, Try.ntmps55
  go_wp2_with (first | (go_at_call 59; refine (l4Chain_any H u hlen _ hi _ (by simp; omega) (R.out.below hB0 hh)).mono ?_; rintro e w1 ⟨vl, rfl, hO1, hB1⟩; rw [hM'.out] at hO1) | (fail))
  have hz1 : w.heap.size + 1 ≤ w1.heap.size := by have := hB1.size; simpa using this
  have hBw : Below w.heap.size w w1 := hB0.trans (hB1.mono (by simp))
  have hE1 : Hid (OwnI w1 w.heap.size (w.heap.size + 1) (.slice (some ⟨w.heap.size, 0, none⟩) 0 0) []) := hE.out.below hB1 (by simp)
  have R1 : Hid (Rd w1 hi (.slice a H.length cap) H) := R.out.below hBw hh
  have RL : Hid (RdI w1 w1.heap.size vl (0 :: M)) := hO1.rd
  obtain ⟨al, capl, rfl⟩ := hO1.rd.form
  clear hO1 R hE
  go_loopw [3, 5] (fun vv p wr => ∃ k : Nat, k ≤ M.length ∧ p = .int .i64 ((k : Int) + 1) ∧ Hid (OutI wr w.heap.size w1.heap.size wr.heap.size vv (alive H (M.take k))) ∧ Below w1.heap.size w1 wr) (fun _ p _ => M.length + 1 - (intOf p).toNat)
  case atStart => exact ⟨0, by omega, rfl, .inl ⟨rfl, rfl⟩, Below.refl _ _⟩
  case round =>
    obtain ⟨k, hk, rfl, ho, hBr⟩ := hrel
    have hzr := hBr.size
    by_cases hlt : k < M.length
    · obtain ⟨i, hi1, ei, en⟩ := chain_at u hMh.out k hlt
      obtain ⟨z, hz⟩ := hid_ex (H[i])
      obtain ⟨b, off, rfl, hb, d0⟩ := (RL.out.below hBr (Nat.le_refl _)).cell (k + 1) (by simp; omega)
      obtain ⟨b', off', rfl, hb', c0, c1, c2, c3⟩ := (R1.out.below hBr (by omega)).cell i hi1
      simp only [List.getElem_cons_succ] at d0
      rw [ei] at d0 en
      rw [hz.out] at c0 c3 en
      clear c1 c2
      have hlt' : (k : Int) + 1 < (M.length : Int) + 1 := by omega
      have hi1' : (i : Int) < H.length := by omega
      have htk : Hid (M.take (k + 1) = M.take k ++ [(i : Int)]) := by unfold Hid; rw [List.take_succ_eq_append_getElem hlt, ei]
      cases hg : z.gone with
      | true =>
        rw [hg] at c3
        go_wp2
        go_roundw
        case rel =>
          refine ⟨k + 1, by omega, by go_num, ?_, hBr⟩
          have e := alive_gone H (M.take k) (i : Int) (by rw [en]; exact hg)
          rw [← htk.out] at e
          rw [e]
          exact ho
        case measure => simp [intOf]; omega
      | false =>
        rw [hg] at c3
        have hAl : (alive H (M.take k)).length + 1 ≤ 65536 := by have := alive_len H (M.take k); simp at this; omega
        go_wp2_with (first | (at_builtin; refine wpList_append_o rfl _ _ 46 rfl Try.underlying46 w.heap.size w1.heap.size wr.heap.size _ (alive H (M.take k)) rfl (ho.out.below ((Below.refl wr.heap.size wr).alloc (Nat.le_refl _) _) (Nat.le_refl _)) (by simp; omega) wr.heap.size 1 1 [z.key] rfl rfl (Nat.le_refl _) (one_range wr _) (by simp; omega) ?_; intro v' w2 hO2 hB2) | (fail))
        have e := alive_live H (M.take k) (i : Int) (by rw [en]; exact hg)
        rw [← htk.out, en] at e
        refine ⟨?_, by simp [intOf]; omega⟩
        repeat apply Exists.intro
        refine ⟨⟨k + 1, by omega, by go_num, ?_, (hBr.alloc (by omega) _).trans hB2⟩, rfl⟩
        rw [e]
        exact .inr hO2
    · have ek : k = M.length := by omega
      have hlt' : ¬ ((k : Int) + 1 < (M.length : Int) + 1) := by omega
      have ho' : Hid (OutI wr w.heap.size w1.heap.size wr.heap.size u3 (alive H M)) := by
        have := ho
        rw [ek, List.take_length] at this
        exact this
      go_wp2
      go_ret
      exact ⟨_, rfl, ho'.out.own (by omega) ((hE1.out.below hBr (by omega)).wide (Nat.le_refl _) (by omega)), hBw.trans (hBr.mono (by omega))⟩

theorem specLiving_any (H : List C) (v : Value) (hi : Nat) (w : World) (hh : hi ≤ w.heap.size) (r : Rd w hi v H) :
    Calls Try.prog 29 #[v] w fun e w' => ∃ v', e = .returned v' ∧ OwnI w' w.heap.size w'.heap.size v' (livingL H) ∧ Below w.heap.size w w' := by
  obtain ⟨a, cap, rfl⟩ := r.form
  have R : Hid (Rd w hi (.slice a H.length cap) H) := r
  clear r
  by_cases hok : heapOk H
  · have HK : Hid (decide (heapOk H) = true) := decide_eq_true hok
    have eL : Hid (livingL H = living H) := if_pos hok
    rw [eL.out]
    have h2 : H.length ≤ 1048576 := by have := hok.1.2; omega
    have U : Hid (Up H) := up_ok hok
    clear hok
    go_enter Try.func29, Try.ntmps29
    go_wp2_with (first | (go_at_call 34; refine (specHeapOk_any H _ hi _ hh R.out).mono ?_; rintro e w1 ⟨rfl, hB1⟩; rw [HK.out]; have hz1 := hB1.size) | (go_at_call 55; refine (l4Living_any H U.out h2 _ hi _ (by omega) (R.out.below hB1 hh)).mono ?_; rintro e w2 ⟨v2, rfl, hO2, hB2⟩) | (fail))
    go_ret
    exact ⟨_, rfl, hO2.wide (by omega) (Nat.le_refl _), hB1.trans (hB2.mono hz1)⟩
  · have HK : Hid (decide (heapOk H) = false) := decide_eq_false hok
    have eL : Hid (livingL H = []) := if_neg hok
    rw [eL.out]
    clear hok
    go_enter Try.func29, Try.ntmps29
    go_wp2_with (first | (go_at_call 34; refine (specHeapOk_any H _ hi _ hh R.out).mono ?_; rintro e w1 ⟨rfl, hB1⟩; rw [HK.out]; have hz1 := hB1.size) | (fail))
    go_ret
    exact ⟨_, rfl, (ownI_empty w1).wide (by omega) (by simp), hB1.alloc (by omega) _⟩

end Go.Proofs.Ytnjeepmbkogaeaa.ce
