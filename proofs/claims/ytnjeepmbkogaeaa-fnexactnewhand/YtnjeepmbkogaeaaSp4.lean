/- Contracts: the model's chapter 4. -/
import Derived.Test.YtnjeepmbkogaeaaIn1
import Derived.Test.YtnjeepmbkogaeaaCeChain
namespace Go.Proofs.Ytnjeepmbkogaeaa.ce
open Go.ChangeShapes Go.WideShapes Go.ChangeAt Go.RowKit
set_option linter.unusedVariables false

theorem l4Chain_any (H : List C) (u : Up H) (hlen : H.length ≤ 1048576) (v : Value) (hi : Nat) (w : World) (hh : hi ≤ w.heap.size) (r : Rd w hi v H) :
    Calls Try.prog 59 #[v] w fun e w' => ∃ v', e = .returned v' ∧ OwnI w' w.heap.size w'.heap.size v' (chain H) ∧ Below w.heap.size w w' := by
  obtain ⟨a, cap, rfl⟩ := r.form
  have R : Hid (Rd w hi (.slice a H.length cap) H) := r
  have U : Hid (Up H) := u
  have hcl : (chain H).length ≤ 65536 := chain_len u
  clear r
  go_enter Try.func59, Try.ntmps59
  go_wp2
  go_loopw [3, 4] (fun vv p wr => ∃ (A L : List Int) (q : Int), p = .int .i64 q ∧ Hid (chain H = A ++ L) ∧ Hid (Ch H q L) ∧ Hid (q = -1 ∨ has H q) ∧ OwnI wr w.heap.size wr.heap.size vv A ∧ Below w.heap.size w wr) (fun _ p _ => left H (intOf p))
  case atStart => exact ⟨[], chain H, 0, rfl, (rfl : chain H = [] ++ chain H), chain_ch u, .inr (has_zero u), (ownI_empty w).wide (Nat.le_refl _) (by simp), (Below.refl _ w).alloc (Nat.le_refl _) _⟩
  case round =>
    obtain ⟨A, L, q, rfl, hc, hch, hq, ho, hBr⟩ := hrel
    cases L with
    | nil =>
      have hq0 : q < 0 := hch.out
      have hq1 : ¬ (0 ≤ q) := by omega
      have e : Hid (chain H = A) := by unfold Hid; rw [hc.out, List.append_nil]
      go_wp2
      go_ret
      exact ⟨_, rfl, by rw [e.out]; exact ho, hBr⟩
    | cons y L =>
      obtain ⟨hy, hq0, hch'⟩ := hch.out
      subst hy
      have hh1 : has H q := by rcases hq.out with e | e; (· omega); (· exact e)
      obtain ⟨i, rfl⟩ : ∃ i : Nat, q = i := ⟨q.toNat, by omega⟩
      have hi1 : i < H.length := by have := hh1.2; omega
      have hi1' : (i : Int) < H.length := by omega
      have en := nth_nat H i hi1
      have hAl : A.length + 1 ≤ 65536 := by rw [hc.out] at hcl; simp at hcl; omega
      have hbs := hBr.size
      obtain ⟨b, off, rfl, hbh, c0, c1, c2, c3⟩ := (R.out.below hBr hh).cell i hi1
      obtain ⟨z, hz⟩ := hid_ex (H[i])
      rw [hz.out] at c2 en
      clear c0 c1 c3
      have hBa : Below w.heap.size w (wr.alloc (.cells #[.int .i64 (i : Int)] 2)) := hBr.alloc hbs _
      go_wp2_with (first | (at_builtin; refine wpList_append_i rfl _ _ 46 rfl Try.underlying46 w.heap.size _ _ A rfl (ho.below ((Below.refl wr.heap.size wr).alloc (Nat.le_refl _) _) (Nat.le_refl _)) (by simp; omega) wr.heap.size 0 1 1 [(i : Int)] rfl rfl (one_range wr _) (by simp; omega) ?_; intro v' w2 hO2 hB2; have c22 : w2.cell? ⟨b, off + i * 4 + 2, none⟩ = some (.int .i64 z.next) := (by rw [hB2.cell (by show b < w.heap.size; omega), Below.cell ((Below.refl wr.heap.size wr).alloc (Nat.le_refl _) _) (by show b < wr.heap.size; omega)]; exact c2)) | (fail))
      go_roundw
      case rel => exact ⟨A ++ [(i : Int)], L, z.next, rfl, (by unfold Hid; rw [hc.out]; simp), (by unfold Hid; rw [← en]; exact hch'), (by unfold Hid; rw [← en]; exact next_or u hh1), hO2, hBa.trans hB2⟩
      case measure =>
        show left H z.next < left H (i : Int)
        rw [← en]
        exact left_lt u hh1

theorem specChain_any (H : List C) (v : Value) (hi : Nat) (w : World) (hh : hi ≤ w.heap.size) (r : Rd w hi v H) :
    Calls Try.prog 56 #[v] w fun e w' => ∃ v', e = .returned v' ∧ OwnI w' w.heap.size w'.heap.size v' (chainL H) ∧ Below w.heap.size w w' := by
  obtain ⟨a, cap, rfl⟩ := r.form
  have R : Hid (Rd w hi (.slice a H.length cap) H) := r
  clear r
  by_cases hok : heapOk H
  · have HK : Hid (decide (heapOk H) = true) := decide_eq_true hok
    have eL : Hid (chainL H = chain H) := if_pos hok
    rw [eL.out]
    have h2 : H.length ≤ 1048576 := by have := hok.1.2; omega
    have U : Hid (Up H) := up_ok hok
    clear hok
    go_enter Try.func56, Try.ntmps56
    go_wp2_with (first | (go_at_call 34; refine (specHeapOk_any H _ hi _ hh R.out).mono ?_; rintro e w1 ⟨rfl, hB1⟩; rw [HK.out]; have hz1 := hB1.size) | (go_at_call 59; refine (l4Chain_any H U.out h2 _ hi _ (by omega) (R.out.below hB1 hh)).mono ?_; rintro e w2 ⟨v2, rfl, hO2, hB2⟩) | (fail))
    go_ret
    exact ⟨_, rfl, hO2.wide (by omega) (Nat.le_refl _), hB1.trans (hB2.mono hz1)⟩
  · have HK : Hid (decide (heapOk H) = false) := decide_eq_false hok
    have eL : Hid (chainL H = []) := if_neg hok
    rw [eL.out]
    clear hok
    go_enter Try.func56, Try.ntmps56
    go_wp2_with (first | (go_at_call 34; refine (specHeapOk_any H _ hi _ hh R.out).mono ?_; rintro e w1 ⟨rfl, hB1⟩; rw [HK.out]; have hz1 := hB1.size) | (fail))
    go_ret
    exact ⟨_, rfl, (ownI_empty w1).wide (by omega) (by simp), hB1.alloc (by omega) _⟩
end Go.Proofs.Ytnjeepmbkogaeaa.ce
