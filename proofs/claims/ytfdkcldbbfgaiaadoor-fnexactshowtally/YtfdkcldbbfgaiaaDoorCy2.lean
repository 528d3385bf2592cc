/- Contracts of the model's helpers on texts: words joined. -/
import Derived.Test.YtfdkcldbbfgaiaaDoorCy1
import Derived.Test.YtfdkcldbbfgaiaaDoorRo3
namespace Go.Proofs.YtfdkcldbbfgaiaaDoor.cm
open Go.ChangeShapes Go.WideShapes Go.ChangeAt Go.RowKit
open Go.Proofs.YtfdkcldbbfgaiaaDoor.ce Go.Proofs.YtfdkcldbbfgaiaaDoor.ro Go.Proofs.YtfdkcldbbfgaiaaDoor.rg
set_option linter.unusedVariables false

theorem map_take_succ {ws : List ByteArray} {i : Nat} (h : i < ws.length) : (ws.take (i + 1)).map bs = (ws.take i).map bs ++ [bs ws[i]] := by
  rw [List.take_succ_eq_append_getElem h, List.map_append]
  rfl
theorem words_size {ws : List ByteArray} {m : Nat} (hm : ∀ x ∈ ws, x.size ≤ m) (i : Nat) : (tx (wordsL ((ws.take i).map bs))).size ≤ ws.length * (m + 1) := by
  rw [tx_size]
  refine Nat.le_trans (wordsL_len ((ws.take i).map bs) m fun w hw => ?_) ?_
  · obtain ⟨x, hx, rfl⟩ := List.mem_map.1 hw
    rw [bs_len]
    exact hm x (List.mem_of_mem_take hx)
  · rw [List.length_map, List.length_take]
    exact Nat.mul_le_mul_right _ (Nat.min_le_right ..)
theorem l1Words_any (ws : List ByteArray) (v : Value) (w : World) (r : Rd encS w v ws) (hl : ws.length ≤ 100) (hm : ∀ x ∈ ws, x.size ≤ 10000) :
    Calls Tryd.prog 19 #[v] w fun e w' => e = .returned (.string (tx (wordsL (ws.map bs)))) ∧ w' = w := by
  obtain ⟨a, cap, rfl⟩ := r.form
  have R : Hid (Rd encS w (.slice a ws.length cap) ws) := r
  have HM : Hid (∀ x ∈ ws, x.size ≤ 10000) := hm
  clear r hm
  have hsp : (⟨#[32]⟩ : ByteArray).size = 1 := rfl
  go_enter Tryd.func19, Tryd.ntmps19
  go_wp2
  go_loop [3, 4] (fun s p => ∃ (i : Nat) (out : ByteArray), i ≤ ws.length ∧ p = .int .i64 i ∧ s = .string out ∧ Hid (out = tx (wordsL ((ws.take i).map bs)))) (fun _ p => ws.length - (intOf p).toNat)
  case atStart => exact ⟨0, ⟨#[]⟩, by omega, rfl, rfl, rfl⟩
  case round =>
    obtain ⟨i, out, hi1, rfl, rfl, ho⟩ := hrel
    have hos : out.size ≤ 1000100 := by
      have := words_size HM.out i
      rw [ho.out]
      have : ws.length * 10001 ≤ 100 * 10001 := Nat.mul_le_mul_right _ hl
      omega
    by_cases hlt : i < ws.length
    · obtain ⟨b, off, rfl, hb, d0⟩ := rdS_cell R.out i hlt
      have hlt' : (i : Int) < (ws.length : Int) := by omega
      have hsz := HM.out ws[i] (List.getElem_mem hlt)
      have hmt := map_take_succ hlt
      have hws := words_snoc ((ws.take i).map bs) (bs ws[i])
      obtain ⟨z, hz⟩ := hid_ex (ws[i])
      rw [hz.out] at d0 hsz hmt hws
      by_cases h0 : i = 0
      · have h0' : decide ((i : Int) > 0) = false := decide_eq_false (by omega)
        have h0'' : ¬ (0 : Int) < (i : Int) := by omega
        have hnew : Hid (out ++ z = tx (wordsL ((ws.take (i + 1)).map bs))) := by
          unfold Hid
          have e : (ws.take i).map bs = [] := by rw [h0]; rfl
          rw [hmt, hws, if_pos e, ho.out, e, show wordsL [] = [] from rfl]
          exact bs_inj0 (by rw [bs_app, bs_tx, bs_tx]; rfl)
        clear hmt hws h0
        go_wp2
        go_round
        case rel => exact ⟨i + 1, out ++ z, by omega, by go_num, rfl, hnew⟩
        case measure => simp [intOf]; omega
      · have h0' : decide ((i : Int) > 0) = true := decide_eq_true (by omega)
        have h0'' : (0 : Int) < (i : Int) := by omega
        have hsz2 : (out ++ ⟨#[32]⟩ : ByteArray).size = out.size + 1 := by rw [ByteArray.size_append]; rfl
        have hnew : Hid (out ++ ⟨#[32]⟩ ++ z = tx (wordsL ((ws.take (i + 1)).map bs))) := by
          unfold Hid
          have e : (ws.take i).map bs ≠ [] := fun q => by
            have := congrArg List.length q
            rw [List.length_map, List.length_take, List.length_nil] at this
            omega
          rw [hmt, hws, if_neg e, ho.out]
          exact bs_inj0 (by rw [bs_app, bs_app, bs_tx, bs_tx]; simp [bs])
        clear hmt hws h0
        go_wp2
        go_round
        case rel => exact ⟨i + 1, out ++ ⟨#[32]⟩ ++ z, by omega, by go_num, rfl, hnew⟩
        case measure => simp [intOf]; omega
    · have hlt' : ¬ (i : Int) < (ws.length : Int) := by omega
      have hend : Hid (out = tx (wordsL (ws.map bs))) := by
        have := ho.out
        rw [List.take_of_length_le (by omega)] at this
        exact this
      clear ho
      go_wp2
      go_ret
      exact ⟨by rw [hend.out]; rfl, rfl⟩

end Go.Proofs.YtfdkcldbbfgaiaaDoor.cm
