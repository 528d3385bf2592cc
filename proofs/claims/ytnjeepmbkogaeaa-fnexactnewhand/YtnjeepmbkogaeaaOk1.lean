/- Contract of l5In; whether a hand is right, as a Bool. -/
import Derived.Test.YtnjeepmbkogaeaaHdMath2
import Derived.Test.YtnjeepmbkogaeaaHd1
import Derived.Test.YtnjeepmbkogaeaaSp4
import Derived.Deep.DeepCutAuto
namespace Go.Proofs.Ytnjeepmbkogaeaa.ce
open Go.ChangeShapes Go.WideShapes Go.ChangeAt Go.RowKit
set_option linter.unusedVariables false

theorem l5In_any (xs : List Int) (n : Int) (v : Value) (hi : Nat) (w : World) (r : RdI w hi v xs) :
    Calls Try.prog 58 #[v, .int .i64 n] w fun e w' => e = .returned (.bool (decide (n ∈ xs))) ∧ w' = w := by
  have hl := r.len
  obtain ⟨a, cap, rfl⟩ := r.form
  have R : Hid (RdI w hi (.slice a xs.length cap) xs) := r
  clear r
  obtain ⟨y, hy⟩ := hid_ex (decide (n ∈ xs))
  rw [hy.out]
  go_enter Try.func58, Try.ntmps58
  go_wp2
  go_loop [5] (fun p => ∃ i : Nat, i ≤ xs.length ∧ p = .int .i64 i ∧ Hid (n ∉ xs.take i)) (fun p => xs.length - (intOf p).toNat)
  case atStart => exact ⟨0, by omega, rfl, (by unfold Hid; simp)⟩
  case round =>
    obtain ⟨i, hi1, rfl, hno⟩ := hrel
    by_cases hlt : i < xs.length
    · obtain ⟨b, off, rfl, hb, d0⟩ := R.out.cell i hlt
      have hlt' : (i : Int) < xs.length := by omega
      obtain ⟨z, hz⟩ := hid_ex (xs[i])
      rw [hz.out] at d0
      by_cases he : z = n
      · have hb : (z == n) = true := by simpa using he
        have ey : y = true := by rw [← hy.out]; exact decide_eq_true (by rw [← he, ← hz.out]; exact List.getElem_mem hlt)
        subst ey
        go_wp2
        go_ret
        exact ⟨rfl, rfl⟩
      · have hb : (z == n) = false := by simpa using he
        have hno2 : Hid (n ∉ xs.take (i + 1)) := by
          unfold Hid
          rw [List.take_succ_eq_append_getElem hlt, List.mem_append, hz.out, List.mem_singleton]
          rintro (h | h)
          · exact hno.out h
          · exact he h.symm
        go_wp2
        go_round
        case rel => exact ⟨i + 1, by omega, by go_num, hno2⟩
        case measure => simp [intOf]; omega
    · have ei : i = xs.length := by omega
      have hlt' : ¬ (i : Int) < xs.length := by omega
      have ey : y = false := by
        have h := hno.out
        rw [ei, List.take_length] at h
        rw [← hy.out]; exact decide_eq_false h
      subst ey
      go_wp2
      go_ret
      exact ⟨rfl, rfl⟩

open Classical in
/-- is the hand right -/
noncomputable def okB (H : List C) (d : Hd) : Bool := decide (OkH H d)
open Classical in
theorem okB_true {H : List C} {d : Hd} (h : OkH H d) : okB H d = true := by unfold okB; exact decide_eq_true h
open Classical in
theorem okB_false {H : List C} {d : Hd} (h : ¬ OkH H d) : okB H d = false := by unfold okB; exact decide_eq_false h
open Classical in
theorem okB_iff {H : List C} {d : Hd} : okB H d = true ↔ OkH H d := by unfold okB; simp
/-- the hand's cells in a box, as a walk wants them -/
theorem HB.of_below {w w' : World} {B q : Nat} {d : Hd} (b : HB w q d) (h : Below B w w') (hq : q < B) : HB w' q d := b.of (h.block q hq)
end Go.Proofs.Ytnjeepmbkogaeaa.ce
