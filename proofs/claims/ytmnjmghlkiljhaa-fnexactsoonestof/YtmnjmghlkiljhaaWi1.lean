/- The model's SoonestOf. -/
import Derived.Test.YtmnjmghlkiljhaaAx0
import Derived.Test.YtmnjmghlkiljhaaIo3
import Derived.Lib.SmallJoins
import Derived.Deep.Slices
import Derived.BigQuiet
import Derived.Deep.DeepCutAuto
namespace Go.Proofs.Ytmnjmghlkiljhaa.rg
open Go.ChangeShapes Go.WideShapes Go.ChangeAt Go.RowKit
open Go.Deep Go.Joins
open Go.Proofs.Ytmnjmghlkiljhaa.ce Go.Proofs.Ytmnjmghlkiljhaa.ro
set_option linter.unusedVariables false
set_option linter.unusedSimpArgs false

theorem sooF_take {b : List It} {i : Nat} (hi : i < b.length) : sooF 0 (b.take (i + 1)) = if b[i].U ≠ 0 ∧ (sooF 0 (b.take i) = 0 ∨ b[i].U < sooF 0 (b.take i)) then b[i].U else sooF 0 (b.take i) := by
  rw [← List.take_append_getElem hi, sooF_snoc]
set_option maxRecDepth 100000 in
set_option maxHeartbeats 4000000 in
theorem specSoonestOf_any (b : List It) (v : Value) (w : World) (r : Rd encIt w v b) (hs : SmK b) :
    Calls Try.prog 33 #[v] w fun e w' => e = .returned (.int .i64 (sooI b)) ∧ Below w.heap.size w w' := by
  obtain ⟨a, cap, rfl⟩ := r.form
  have R : Hid (Rd encIt w (.slice a b.length cap) b) := r
  have HS : Hid (SmK b) := hs
  have hlb := r.len
  clear r hs
  obtain ⟨z, hz⟩ := hid_ex (sooI b)
  rw [hz.out]
  cases hbk : bookB b with
  | false =>
    have hz0 : Hid (z = 0) := by unfold Hid; rw [← hz.out]; unfold sooI; rw [hbk]; rfl
    go_enter Try.func33, Try.ntmps33
    go_wp2_with (first | (go_at_call 36; refine (specBookOk_any b _ w R.out HS.out).mono ?_; rintro e w1 ⟨rfl, hB1⟩; rw [hbk]) | (fail))
    go_ret
    exact ⟨by rw [hz0.out]; rfl, hB1⟩
  | true =>
    have hz0 : Hid (z = sooF 0 b) := by unfold Hid; rw [← hz.out]; unfold sooI; rw [if_pos hbk]
    go_enter Try.func33, Try.ntmps33
    go_wp2_with (first | (go_at_call 36; refine (specBookOk_any b _ w R.out HS.out).mono ?_; rintro e w1 ⟨rfl, hB1⟩; rw [hbk]) | (fail))
    go_loop [3, 4] (fun nv iv => ∃ (i : Nat) (s : Int), nv = .int .i64 s ∧ iv = .int .i64 i ∧ i ≤ b.length ∧ Hid (sooF 0 (b.take i) = s)) (fun _ iv => b.length - (intOf iv).toNat)
    case atStart => exact ⟨0, 0, rfl, rfl, by omega, rfl⟩
    case round =>
      obtain ⟨i, s, rfl, rfl, hi, HF⟩ := hrel
      by_cases hlt : i < b.length
      · have hlt' : (i : Int) < (b.length : Int) := by omega
        obtain ⟨bk, off, rfl, hbk2, hrng⟩ := rd_item (E := encIt) rfl rfl (R.out.grow hB1) i hlt
        obtain ⟨⟨N, F, B, C, U⟩, hx⟩ := hid_ex (b[i])
        rw [hx.out] at hrng
        obtain ⟨-, -, -, -, p4⟩ := rng5 hrng
        have hf := sooF_take hlt
        rw [hx.out, HF.out] at hf
        have HF2 : Hid _ := hf
        clear hf hrng
        by_cases h0 : U = 0
        · have f0 : (U != 0) = false := by simpa using h0
          have K : Hid (U = 0) := h0
          clear h0
          go_wp2
          go_roundw
          case rel => exact ⟨i + 1, s, rfl, by go_num, by omega, HF2.out.trans (if_neg fun q => q.1 K.out)⟩
          case measure => simp [intOf]; omega
        · have f0 : (U != 0) = true := by simpa using h0
          have K : Hid (U ≠ 0) := h0
          clear h0
          by_cases h1 : s = 0
          · have f1 : (s == 0) = true := by simpa using h1
            have K1 : Hid (s = 0) := h1
            clear h1
            go_wp2
            go_roundw
            case rel => exact ⟨i + 1, U, rfl, by go_num, by omega, HF2.out.trans (if_pos ⟨K.out, .inl K1.out⟩)⟩
            case measure => simp [intOf]; omega
          · have f1 : (s == 0) = false := by simpa using h1
            have K1 : Hid (s ≠ 0) := h1
            clear h1
            by_cases h2 : U < s
            · have K2 : Hid (U < s) := h2
              go_wp2
              go_roundw
              case rel => exact ⟨i + 1, U, rfl, by go_num, by omega, HF2.out.trans (if_pos ⟨K.out, .inr K2.out⟩)⟩
              case measure => simp [intOf]; omega
            · have K2 : Hid (¬ U < s) := h2
              go_wp2
              go_roundw
              case rel => exact ⟨i + 1, s, rfl, by go_num, by omega, HF2.out.trans (if_neg fun q => q.2.elim K1.out K2.out)⟩
              case measure => simp [intOf]; omega
      · have hlt' : ¬ (i : Int) < (b.length : Int) := by omega
        go_wp2
        go_ret
        refine ⟨?_, hB1⟩
        have := HF.out
        rw [List.take_of_length_le (by omega)] at this
        rw [hz0.out, this]
        rfl
end Go.Proofs.Ytmnjmghlkiljhaa.rg
