/- Contracts of the program: the number of a verb's word; texts cut loose. -/
import Derived.Test.YtefmndjoailemaaDoorCa1
import Derived.Test.YtefmndjoailemaaDoorWr1
namespace Go.Proofs.YtefmndjoailemaaDoor.cm
open Go.ChangeShapes Go.WideShapes Go.ChangeAt Go.RowKit
open Go.Proofs.YtefmndjoailemaaDoor.ce Go.Proofs.YtefmndjoailemaaDoor.ro Go.Proofs.YtefmndjoailemaaDoor.rg
set_option linter.unusedVariables false

theorem vws_at {i : Nat} (h0 : 1 ≤ i) (h1 : i ≤ 13) : vws[i]'(by show i < 14; omega) = tx (vw i) := by
  obtain ⟨j, rfl⟩ : ∃ j, i = j + 1 := ⟨i - 1, by omega⟩
  unfold vw
  have : (((j + 1 : Nat) : Int) - 1).toNat = j := by omega
  rw [this, List.getElem?_eq_getElem (show j < verbs.length by show j < 13; omega)]
  simp [vws, vtx]
theorem verb_none {l : List UInt8} (h : ∀ i : Nat, 1 ≤ i → i ≤ 13 → vw i ≠ l) : verbOf l = 0 := by
  by_cases h0 : verbOf l = 0
  · exact h0
  · obtain ⟨a, b, c⟩ := verbOf_pos h0
    obtain ⟨k, hk⟩ : ∃ k : Nat, verbOf l = k := ⟨(verbOf l).toNat, by omega⟩
    rw [hk] at a b c
    exact absurd c (h k (by omega) (by omega))
set_option maxRecDepth 10000 in
set_option maxHeartbeats 1000000 in
theorem verbOf_any (s : ByteArray) (w : World) (en : EnvW w) : Calls Tryd.prog 57 #[.string s] w fun e w' => e = .returned (.int .i64 (verbOf (bs s))) ∧ w' = w := by
  have EN : Hid (EnvW w) := en
  clear en
  obtain ⟨y, hy⟩ := hid_ex (verbOf (bs s))
  rw [hy.out]
  go_enter Tryd.func57, Tryd.ntmps57
  go_wp2
  go_loop [3] (fun p => ∃ i : Nat, p = .int .i64 i ∧ 1 ≤ i ∧ i ≤ 14 ∧ Hid (∀ j : Nat, 1 ≤ j → j < i → vw j ≠ bs s)) (fun p => 14 - (intOf p).toNat)
  case atStart => exact ⟨1, rfl, by omega, by omega, fun j h1 h2 => by omega⟩
  case round =>
    obtain ⟨i, rfl, h1, h2, hno⟩ := hrel
    by_cases hlt : i ≤ 13
    · have hlt' : (i : Int) ≤ 13 := by omega
      have hl14 : (i : Int) < 14 := by omega
      have dv := EN.out.vw i (by show i < 14; omega)
      rw [vws_at h1 hlt] at dv
      by_cases he : vw i = bs s
      · have hb : ((tx (vw i)).toList == s.toList) = true := by rw [tx_eq, decide_eq_true he]
        have ey : y = i := by rw [← hy.out, ← he]; exact verbOf_vw (by omega) (by omega)
        subst ey
        clear he
        go_wp2
        go_ret
        exact ⟨rfl, rfl⟩
      · have hb : ((tx (vw i)).toList == s.toList) = false := by rw [tx_eq, decide_eq_false he]
        have hno2 : Hid (∀ j : Nat, 1 ≤ j → j < i + 1 → vw j ≠ bs s) := fun j a b => by
          by_cases e : j = i
          · rw [e]; exact he
          · exact hno.out j a (by omega)
        clear he
        go_wp2
        go_round
        case rel => exact ⟨i + 1, by go_num, by omega, by omega, hno2⟩
        case measure => simp [intOf]; omega
    · have hlt' : ¬ (i : Int) ≤ 13 := by omega
      have ey : y = 0 := by rw [← hy.out]; exact verb_none fun j a b => hno.out j a (by omega)
      subst ey
      go_wp2
      go_ret
      exact ⟨rfl, rfl⟩
end Go.Proofs.YtefmndjoailemaaDoor.cm
